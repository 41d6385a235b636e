/- GroupBack's walk. -/
import Derived.Test.YtbhaifdhmfmeoaaRw
namespace Go.Proofs.Ytbhaifdhmfmeoaa
set_option linter.unusedSimpArgs false
set_option linter.unusedVariables false
open Go.RowKit

/-- A new variable of 36 that lies alone. -/
def T36 (w : World) (t : Nat) : Prop := w.heap[t]? = some (.cells #[.slice none 0 0, .slice none 0 0, .int .i64 0, .int .i64 0] 36)
theorem T36.lt {w : World} {t : Nat} (h : T36 w t) : t < w.heap.size := (Array.getElem?_eq_some_iff.1 h).1
theorem T36.new (w : World) : T36 (w.alloc (.cells #[.slice none 0 0, .slice none 0 0, .int .i64 0, .int .i64 0] 36)) w.heap.size := heap_alloc_new w _
theorem T36.below {w w' : World} {t : Nat} (h : T36 w t) (hb : Below w.heap.size w w') : T36 w' t := (hb.block t h.lt).trans h
theorem T36.blk {w : World} {t : Nat} (h : T36 w t) : Blk w t [.slice none 0 0, .slice none 0 0, .int .i64 0, .int .i64 0] := ⟨36, h⟩
theorem T36.grown {w w' : World} {t B : Nat} {sv : Value} {l : List (List Int)} (h : T36 w t) (ho : OwnS w B sv l) (hg : w.grownBy w' sv.ownBlock) : T36 w' t := by
  refine (hg.block t h.lt fun e => ?_).trans h
  obtain ⟨cur, fz, h2⟩ := ownsRow_type ho.row t e.symm
  rw [h] at h2
  injection h2 with h3
  injection h3 with h4 h5
  cases h5
theorem app_WS {o : Oper} {a : Act} {w : World} {K : Act → World → Prop} {Q : Exit → Act → World → Prop} (dst : Option Tmp) (hd : o.dst = dst) {B : Nat} {sv tv : Value} {l m : List (List Int)} (h : OwnS w B sv l) (hB : B ≤ w.heap.size) (k : SecsAt w tv m) (hlen : l.length + m.length ≤ 100000) (x y : Operand) (ho : o.op = .call { callee := .builtin .append, args := #[x, y], argTypes := #[24, 24] }) (hx : a.eval x = sv) (hy : a.eval y = tv)
    (hh : ∀ sv' w', OwnS w' B sv' (l ++ m) → w.grownBy w' sv.ownBlock → K (a.put dst sv') w') : o.wp Try.prog a w K Q := by
  obtain ⟨sv', w', hr, ho', hg⟩ := app_ownS h hB k hlen o.type
  exact wp_runTo dst hd sv' w' (exec_app a.eval o x y 24 24 ho sv tv sv' hx hy hr) (hh sv' w' ho' hg)
theorem secs_upto {w : World} {a : Option Addr} {T cap k : Nat} {X : List (List Int)} (h : SecsAt w (.slice a T cap) X) (hk : k ≤ T) : SecsAt w (.slice (cutA a 0 cap 64) k cap) (X.take k) := by
  have := h.cut 0 k (by omega) hk (X.take k) (by simp)
  simpa using this
theorem secs_cap {w : World} {a : Option Addr} {T cap : Nat} {X : List (List Int)} (h : SecsAt w (.slice a T cap) X) : T ≤ cap := by
  obtain ⟨a', c', e, hc, -⟩ := h
  injection e with q1 q2 q3
  omega
theorem got_at {w : World} {t : Nat} {b : Bk} {sv : Value} {n e : Int} (h : Blk w t (gotA b sv n e).toList) (hw : b.Wf) : At w t 0 (b.arr sv) ∧ w.cell? ⟨t, 45, none⟩ = some (.int .u32 n) ∧ w.cell? ⟨t, 46, none⟩ = some (.int .i64 e) := by
  have hl := b.cells_length hw sv
  have e1 : (gotA b sv n e).toList = b.cells sv ++ [.int .u32 n, .int .i64 e] := by simp [gotA]
  rw [e1] at h
  refine ⟨fun j hj => h.cell ?_, h.cell ?_, h.cell ?_⟩
  · have hj2 : j < (b.cells sv).length := by simpa [Bk.arr] using hj
    rw [Nat.zero_add, List.getElem?_append_left hj2]
    simp [Bk.arr]
  · rw [List.getElem?_append_right (by omega), hl]
    rfl
  · rw [List.getElem?_append_right (by omega), hl]
    rfl
theorem Row1.lt {w : World} {g T cap : Nat} {X : List (List Int)} (h : Row1 w g T cap X) : g < w.heap.size := by
  obtain ⟨L, h1, -⟩ := h.row
  exact h1.lt
theorem Row1.low {w w' : World} {B g T cap : Nat} {X : List (List Int)} (h : Row1 w g T cap X) (hb : Below B w w') (hg : g < B) : Row1 w' g T cap X := by
  obtain ⟨L, h1, h2, h3⟩ := h.row
  exact ⟨h.n, h.cap, h.sc, L, h1.below hb hg, h2, h3⟩
theorem run_S0 (w : World) : (Instr.buildSlice 24 0 #[]).run Try.prog w = .ok (.slice (some ⟨w.heap.size, 0, none⟩) 0 0) (w.alloc (.cells #[] 50)) := by
  go_simp
/-- What stays through the walk. -/
structure BS (w wx : World) (gx ox cx T : Nat) (X : List (List Int)) (n m b c : Int) : Prop where
  x : SecsAt wx (.slice (some ⟨gx, ox, none⟩) T cx) X
  p : Blk wx w.heap.size [.int .u32 n, .int .u32 m]
  q : Blk wx (w.heap.size + 1) [.int .u8 b, .int .u8 c]
  l : Below w.heap.size w wx
theorem BS.below {w wx wy : World} {gx ox cx T : Nat} {X : List (List Int)} {n m b c : Int} (h : BS w wx gx ox cx T X n m b c) (hb : Below wx.heap.size wx wy) : BS w wy gx ox cx T X n m b c :=
  ⟨h.x.below hb, h.p.below hb h.p.lt, h.q.below hb h.q.lt, stay h.l hb⟩
structure FD (wx : World) (t : Nat) (iv dv : Value) (T P : Nat) (pl : List (It × Value)) (A : List It) : Prop where
  b : Blk wx t [iv, dv, .int .i64 T, .int .i64 P]
  i : ItemsAt wx iv pl
  e : pl.map (·.1) = A
theorem rp_sc {b : Int} (h : Byte b) : Sc (rp 64 b) := ⟨by simp [rp], fun x hx => by rw [List.eq_of_mem_replicate (show x ∈ List.replicate 64 b from hx)]; exact h⟩
set_option maxRecDepth 100000 in
theorem back_bad (a : List (It × Value)) (n m b c : Int) (av : Value) (na : a.length ≤ 9223372036854775807) (hf : fair (a.map (·.1)) = false) (w : World) (ha : ItemsAt w av a) : Calls Try.prog 4 #[av, .agg #[.int .u32 n, .int .u32 m], .agg #[.int .u8 b, .int .u8 c]] w fun e w' => e = .returned (.bool true) ∧ Below w.heap.size w w' := by
  have HFA := Lib.hid (fun w h => fair_any a a.length rfl na av w h)
  have HWK := Lib.hid wakes_any
  rw [hf] at HFA
  have HA := Lib.hid ha
  clear ha na hf
  go_enter Try.func4, Try.ntmps4
  go_upto_region 1 with fail
  have HB := Lib.hid (((Below.refl w.heap.size w).alloc (Nat.le_refl _) (.cells #[.int .u32 n, .int .u32 m] 47)).alloc (by simp) (.cells #[.int .u8 b, .int .u8 c] 48))
  generalize (w.alloc (.cells #[.int .u32 n, .int .u32 m] 47)).alloc (.cells #[.int .u8 b, .int .u8 c] 48) = w1 at *
  go_wp2_with fail
  refine (HFA.out _ (HA.out.below HB.out)).mono ?_
  rintro e w2 ⟨rfl, rfl⟩
  go_wp2_with fail
  refine (HWK.out _).mono ?_
  rintro e w3 ⟨rfl, hb⟩
  have HB3 := Lib.hid (stay HB.out hb)
  clear hb
  go_wp2_with fail
  go_ret
  exact ⟨rfl, HB3.out⟩
set_option maxRecDepth 100000 in
set_option maxHeartbeats 100000000 in
theorem backs_any (a : List (It × Value)) (n m b c : Int) (hn : 0 ≤ n ∧ n < 4294967296) (hm : 0 ≤ m ∧ m < 4294967296) (hb : Byte b) (hc : Byte c) (av : Value) (na : a.length ≤ 9223372036854775807) (w : World) (ha : ItemsAt w av a) : Calls Try.prog 4 #[av, .agg #[.int .u32 n, .int .u32 m], .agg #[.int .u8 b, .int .u8 c]] w fun e w' => e = .returned (.bool true) ∧ Below w.heap.size w w' := by
  cases hf : fair (a.map (·.1))
  · exact back_bad a n m b c av na hf w ha
  have HFA := Lib.hid (fun w h => fair_any a a.length rfl na av w h)
  rw [hf] at HFA
  have hla := fair_len hf
  rw [List.length_map] at hla
  have HWK := Lib.hid wakes_any
  obtain ⟨A, hA⟩ : ∃ A, a.map (·.1) = A := ⟨_, rfl⟩
  have HLN := Lib.hid fun w h => lay_gen a A hA n hn av (by omega) w h
  have HPA := Lib.hid fun w h => partsG_any a A hA av (by omega) w h
  have HSA := Lib.hid fun w h => sizeG_any a A hA av (by omega) w h
  have HIA := Lib.hid ha
  have HA := Lib.hid hA
  have HAN : Hid (A.length = a.length) := Lib.hid (by rw [← hA, List.length_map])
  have HAL := Lib.hid hla
  have HAW : Hid (∀ x ∈ A, x.Wf) := Lib.hid (by rw [← hA]; exact ha.wf)
  have HSN := Lib.hid (seq_ok hn)
  have HSM := Lib.hid (seq_ok hm)
  have HBB := Lib.hid hb
  have HCC := Lib.hid hc
  clear hf hla hA ha na hb hc
  go_enter Try.func4, Try.ntmps4
  go_upto_region 1 with fail
  have HB := Lib.hid (((Below.refl w.heap.size w).alloc (Nat.le_refl _) (.cells #[.int .u32 n, .int .u32 m] 47)).alloc (by simp) (.cells #[.int .u8 b, .int .u8 c] 48))
  have HV : Hid (Blk ((w.alloc (.cells #[.int .u32 n, .int .u32 m] 47)).alloc (.cells #[.int .u8 b, .int .u8 c] 48)) w.heap.size [.int .u32 n, .int .u32 m]) := Lib.hid ((Blk.new w #[.int .u32 n, .int .u32 m] 47).alloc _)
  have HQ : Hid (Blk ((w.alloc (.cells #[.int .u32 n, .int .u32 m] 47)).alloc (.cells #[.int .u8 b, .int .u8 c] 48)) (w.heap.size + 1) [.int .u8 b, .int .u8 c]) := Lib.hid (Blk.newAt _ _ _ (by simp) rfl)
  generalize (w.alloc (.cells #[.int .u32 n, .int .u32 m] 47)).alloc (.cells #[.int .u8 b, .int .u8 c] 48) = w1 at *
  go_wp2_with fail
  refine (HFA.out _ (HIA.out.below HB.out)).mono ?_
  rintro e w2 ⟨rfl, rfl⟩
  have c0 : w1.cell? ⟨w.heap.size, 0, none⟩ = some (.int .u32 n) := HV.out.cell rfl
  go_wp2_with fail
  refine (HLN.out _ (HIA.out.below HB.out)).mono ?_
  rintro e w3 ⟨s7, s8, e0, rfl, hlo⟩
  have HB3 := Lib.hid (stay HB.out hlo.bel)
  have HV3 := Lib.hid (HV.out.below hlo.bel HV.out.lt)
  have HQ3 := Lib.hid (HQ.out.below hlo.bel HQ.out.lt)
  have HLO := Lib.hid hlo
  clear hlo HLN HFA c0 HV HQ
  cases hmA : mayBe A
  · obtain ⟨rfl, rfl, rfl⟩ := HLO.out.no hmA
    have hsz : sizeOf' A = 0 := by unfold sizeOf'; rw [hmA]; rfl
    rw [hsz] at HSA
    clear hmA hsz
    go_wp2_with fail
    refine (HSA.out _ (HIA.out.below HB3.out)).mono ?_
    rintro e w4 ⟨rfl, hb⟩
    have HB4 := Lib.hid (stay HB3.out hb)
    clear hb
    go_wp2_with fail
    refine (HWK.out _).mono ?_
    rintro e w5 ⟨rfl, hb⟩
    have HB5 := Lib.hid (stay HB4.out hb)
    clear hb
    go_wp2_with fail
    go_ret
    exact ⟨rfl, HB5.out⟩
  obtain ⟨rfl, htA⟩ := HLO.out.yes hmA
  have HXS := Lib.hid htA.s.secs
  obtain ⟨ax, cx, hs7, -⟩ := htA.s.len
  obtain ⟨T, hT⟩ : ∃ l, (lay2 n A).1.length = l := ⟨_, rfl⟩
  rw [hT] at hs7
  subst hs7
  have hpp := (parts_pos hmA)
  have hpa : partsN A = (parts A.length : Int) := by unfold partsN; rw [hmA, if_pos rfl]
  obtain ⟨P, hP⟩ : ∃ p, parts A.length = p := ⟨_, rfl⟩
  have hsz : sizeOf' A = (T : Int) := by unfold sizeOf'; rw [hmA, if_pos rfl, ← hT, lay2_length]
  rw [hpa, hP] at HPA
  rw [hsz] at HSA
  have HMA := Lib.hid hmA
  have hT1 : 1 ≤ T := by rw [← hT, lay2_length]; omega
  have hT3 : T ≤ 200 := by
    rw [← hT, lay2_length]
    have h1 := blocks_le (marks A)
    rw [List.length_map] at h1
    have := HAL.out
    have := HAN.out
    omega
  obtain ⟨gx, ox, c1, h1, -⟩ := HXS.out.has (by rw [lay2_length]; omega)
  have q1 : ax = some ⟨gx, ox, none⟩ := by injection h1
  subst q1
  have HT := Lib.hid hT
  have HP := Lib.hid hP
  have HBS := Lib.hid (BS.mk HXS.out HV3.out HQ3.out HB3.out)
  have gT0 : ((T : Int) == 0) = false := by simp; omega
  have gT0d : decide ((T : Int) = 0) = false := decide_eq_false (by omega)
  have HFL := Lib.hid fun w => fill_any b w
  have HRP := Lib.hid (rp_sc HBB.out)
  have HRD1 := Lib.hid fun w sv h => readG_any n HSN.out ((lay2 n A).1 ++ [rp 64 b]) (T + 1) (by rw [List.length_append, HT.out]; rfl) (by omega) sv w h
  rw [readP_lay HMA.out HAW.out] at HRD1
  clear hT hpp hpa hP hsz h1 htA HLO hmA hn hm HXS HV3 HQ3 HB3 HB
  go_upto_region 6 with fail
  go_cut [10, 11] from 59 to 72 (fun s10 s11 wx => ∃ t ia da ic dc pl, s10 = .pointer (some ⟨t, 0, none⟩) ∧ s11 = .bool true ∧ BS w wx gx ox cx T (lay2 n A).1 n m b c ∧ FD wx t (.slice ia a.length ic) (.slice da a.length dc) T P pl A)
  case first =>
    have Hw : Hid (w3 = w3) := Lib.hid rfl
    obtain ⟨w5, hw5⟩ : ∃ w5, w3 = w5 := ⟨_, rfl⟩
    subst hw5
    refine startH (fun wq => Below w3.heap.size w3 wq) (by kernel_rfl) ?_
    have HSX : Hid (Below w3.heap.size w3 w3.drew) := Lib.hid (Below.refl _ _).drew
    generalize w3.drew = wS at *
    refine takeH 0 (some 60) (.pointer (some ⟨w.heap.size, 0, none⟩)) rfl rfl (by kernel_rfl) (by kernel_rfl) (by kernel_rfl) (fun _ _ _ h => h) rfl (fun wq hS => by go_simp) HSX.out ?_
    try simp only [Act.put, List.setIfInBounds_toArray, List.set_cons_succ, List.set_cons_zero]
    refine takeH 1 (some 61) (.int .u32 n) rfl rfl (by kernel_rfl) (by kernel_rfl) (by kernel_rfl) (fun _ _ _ h => h) rfl (fun wq hS => by have q : wq.cell? ⟨w.heap.size, 0, none⟩ = some (.int .u32 n) := (HBS.out.below hS).p.cell rfl; go_simp) HSX.out ?_
    try simp only [Act.put, List.setIfInBounds_toArray, List.set_cons_succ, List.set_cons_zero]
    refine takeH 3 (some 63) (.slice (some ⟨gx, ox, none⟩) T cx) rfl rfl (by kernel_rfl) (by kernel_rfl) (by kernel_rfl) (fun _ _ _ h => h) rfl (fun wq hS => by go_simp) HSX.out ?_
    try simp only [Act.put, List.setIfInBounds_toArray, List.set_cons_succ, List.set_cons_zero]
    refine takeH 5 (some 65) (.pointer (some ⟨w.heap.size + 1, 0, none⟩)) rfl rfl (by kernel_rfl) (by kernel_rfl) (by kernel_rfl) (fun _ _ _ h => h) rfl (fun wq hS => by go_simp) HSX.out ?_
    try simp only [Act.put, List.setIfInBounds_toArray, List.set_cons_succ, List.set_cons_zero]
    refine takeH 6 (some 66) (.int .u8 b) rfl rfl (by kernel_rfl) (by kernel_rfl) (by kernel_rfl) (fun _ _ _ h => h) rfl (fun wq hS => by have q : wq.cell? ⟨w.heap.size + 1, 0, none⟩ = some (.int .u8 b) := (HBS.out.below hS).q.cell rfl; go_simp) HSX.out ?_
    try simp only [Act.put, List.setIfInBounds_toArray, List.set_cons_succ, List.set_cons_zero]
    refine twoH 2 14 (by kernel_rfl) rfl rfl rfl rfl (fun K hK => ?_) (fun K hK => ?_)
    · refine wp_runTo (some 62) rfl _ _ (exec_buildSlice _ _ _ _ 24 0 _ rfl #[] (by simp) _ (run_S0 wS)) ?_
      have hb := alloc_bel wS (.cells #[] 50)
      have HO1 := Lib.hid ((lit0S wS w3.heap.size HSX.out.size))
      have HS6_1 := Lib.hid (stay HSX.out hb)
      refine hK _ _ HS6_1.out ?_
      clear hK K hb
      try simp only [Act.put, List.setIfInBounds_toArray, List.set_cons_succ, List.set_cons_zero]
      generalize wS.alloc (.cells #[] 50) = w6_1 at *
      generalize wS.heap.size = k0 at *
      refine twoH 4 14 (by kernel_rfl) rfl rfl rfl rfl (fun K hK => ?_) (fun K hK => ?_)
      · refine app_WS (some 64) rfl HO1.out HS6_1.out.size (HBS.out.below HS6_1.out).x (by rw [HT.out]; simp only [List.length_nil]; omega) _ _ rfl rfl rfl ?_
        intro s2 w6_2 ho hg
        have HS6_2 := Lib.hid (HS6_1.out.trans (grown_below hg HS6_1.out.size fun k hk => (HO1.out.lt k hk).1))
        rw [List.nil_append] at ho
        have HO2 := Lib.hid ho
        refine hK _ _ HS6_2.out ?_
        clear hK K ho hg
        try simp only [Act.put, List.setIfInBounds_toArray, List.set_cons_succ, List.set_cons_zero]
        refine twoH 7 14 (by kernel_rfl) rfl rfl rfl rfl (fun K hK => ?_) (fun K hK => ?_)
        · go_simp
          refine (HFL.out w6_2).mono ?_
          rintro e w6_3 ⟨rfl, hb⟩
          have HS6_3 := Lib.hid (stay HS6_2.out hb)
          have HO3 := Lib.hid (HO2.out.below hb)
          refine hK _ _ HS6_3.out ?_
          clear hK K hb
          try simp only [Act.put, List.setIfInBounds_toArray, List.set_cons_succ, List.set_cons_zero]
          refine twoH 8 14 (by kernel_rfl) rfl rfl rfl rfl (fun K hK => ?_) (fun K hK => ?_)
          · refine wp_runTo (some 68) rfl _ _ (exec_buildSlice _ _ _ _ 24 1 _ rfl #[(0, .agg (u8s (rp 64 b)).toArray)] (by simp only [List.map_toArray, List.map_cons, List.map_nil]; rfl) _ (run_litS w6_3 (rp 64 b) HRP.out)) ?_
            have hb := alloc_bel w6_3 (.cells (secCells [rp 64 b]).toArray 50)
            have HL4 := Lib.hid (litS_secs (w := w6_3) HRP.out)
            have HS6_4 := Lib.hid (stay HS6_3.out hb)
            have HO4 := Lib.hid (HO3.out.below hb)
            refine hK _ _ HS6_4.out ?_
            clear hK K hb
            try simp only [Act.put, List.setIfInBounds_toArray, List.set_cons_succ, List.set_cons_zero]
            generalize w6_3.alloc (.cells (secCells [rp 64 b]).toArray 50) = w6_4 at *
            generalize w6_3.heap.size = k1 at *
            refine twoH 9 14 (by kernel_rfl) rfl rfl rfl rfl (fun K hK => ?_) (fun K hK => ?_)
            · refine app_WS (some 69) rfl HO4.out HS6_4.out.size HL4.out (by rw [HT.out]; simp only [List.length_cons, List.length_nil]; omega) _ _ rfl rfl rfl ?_
              intro s5 w6_5 ho hg
              have HS6_5 := Lib.hid (HS6_4.out.trans (grown_below hg HS6_4.out.size fun k hk => (HO4.out.lt k hk).1))
              have HR5 := Lib.hid ho.secs
              obtain ⟨aq, cq, hsq, -⟩ := ho.len
              rw [List.length_append, HT.out, show ([rp 64 b] : List (List Int)).length = 1 from rfl] at hsq
              subst hsq
              refine hK _ _ HS6_5.out ?_
              clear hK K ho hg
              try simp only [Act.put, List.setIfInBounds_toArray, List.set_cons_succ, List.set_cons_zero]
              refine twoH 10 14 (by kernel_rfl) rfl rfl rfl rfl (fun K hK => ?_) (fun K hK => ?_)
              · go_simp
                refine (HRD1.out _ _ HR5.out).mono ?_
                rintro e w6_6 ⟨hro, hb⟩
                obtain ⟨iv, pl, dv, hpl, rfl, hit, hin⟩ := hro.some
                have hpn : pl.length = a.length := by
                  have := congrArg List.length hpl
                  rw [List.length_map, HAN.out] at this
                  exact this
                obtain ⟨ia, ic, hia⟩ := items_one hit
                rw [hpn] at hia
                obtain ⟨da, dc, hda⟩ := hin.form
                have hal : (lay2 n A).2.length = a.length := by rw [lay2_at, HAN.out]
                rw [hal] at hda
                subst hia
                subst hda
                rw [HT.out, HP.out]
                have HI6 := Lib.hid hit
                have HPL := Lib.hid hpl
                have HS6_6 := Lib.hid (stay HS6_5.out hb)
                refine hK _ _ HS6_6.out ?_
                clear hK K hro hb hit hin hpl hpn hal
                try simp only [Act.put, List.setIfInBounds_toArray, List.set_cons_succ, List.set_cons_zero]
                refine takeH 11 (some 59) (.tuple #[.agg #[.slice ia a.length ic, .slice da a.length dc, .int .i64 T, .int .i64 P], .bool true]) rfl rfl (by kernel_rfl) (by kernel_rfl) (by kernel_rfl) (fun _ _ _ h => h) rfl (fun wq hS => by go_simp) HS6_6.out ?_
                try simp only [Act.put, List.setIfInBounds_toArray, List.set_cons_succ, List.set_cons_zero]
                refine takeH 12 (some 71) (.agg #[.slice ia a.length ic, .slice da a.length dc, .int .i64 T, .int .i64 P]) rfl rfl (by kernel_rfl) (by kernel_rfl) (by kernel_rfl) (fun _ _ _ h => h) rfl (fun wq hS => by go_simp) HS6_6.out ?_
                try simp only [Act.put, List.setIfInBounds_toArray, List.set_cons_succ, List.set_cons_zero]
                refine takeH 13 (some 72) (.bool true) rfl rfl (by kernel_rfl) (by kernel_rfl) (by kernel_rfl) (fun _ _ _ h => h) rfl (fun wq hS => by go_simp) HS6_6.out ?_
                try simp only [Act.put, List.setIfInBounds_toArray, List.set_cons_succ, List.set_cons_zero]
                refine oneH 14 (by kernel_rfl) rfl rfl fun K hK => ?_
                refine wp_runTo (some 10) rfl _ _ (exec_alloc _ _ _ 36 rfl _ zero36) ?_
                have hT := T36.new w6_6
                have hb := alloc_bel w6_6 (.cells #[.slice none 0 0, .slice none 0 0, .int .i64 0, .int .i64 0] 36)
                have HS6_7 := Lib.hid (stay HS6_6.out hb)
                have HTB7 := Lib.hid HS6_6.out.size
                have HT7 := Lib.hid hT
                refine hK _ _ HS6_7.out ?_
                have HI14 := Lib.hid (HI6.out.below hb)
                clear hK K hT hb
                try simp only [Act.put, List.setIfInBounds_toArray, List.set_cons_succ, List.set_cons_zero]
                generalize w6_6.alloc (.cells #[.slice none 0 0, .slice none 0 0, .int .i64 0, .int .i64 0] 36) = w6_7 at *
                generalize w6_6.heap.size = t at *
                refine oneH 15 (by kernel_rfl) rfl rfl fun K hK => ?_
                refine wp_store_all 36 _ _ rfl t #[.slice ia a.length ic, .slice da a.length dc, .int .i64 T, .int .i64 P] rfl rfl _ HT7.out.blk rfl info36 (four_one _ _ _ _ _ _ _ _) ?_
                intro wT hT2 hOT
                have HIT3 := Lib.hid (HI14.out.only HT7.out.blk noit36 hOT)
                have hbf := hOT.below HS6_7.out.size (fun k hk => by have := HTB7.out; omega)
                have HSU := Lib.hid (HS6_7.out.trans hbf)
                refine hK _ _ HSU.out ?_
                clear hK K
                try simp only [Act.put, List.setIfInBounds_toArray, List.set_cons_succ, List.set_cons_zero]
                refine takeH 16 (some 11) (.bool true) rfl rfl (by kernel_rfl) (by kernel_rfl) (by kernel_rfl) (fun _ _ _ h => h) rfl (fun wq hS => by go_simp) HSU.out ?_
                try simp only [Act.put, List.setIfInBounds_toArray, List.set_cons_succ, List.set_cons_zero]
                refine wpAnyH_done (by kernel_rfl) ?_ _
                go_wp2_with fail
                go_meet
                exact ⟨t, ia, da, ic, dc, pl, rfl, rfl, HBS.out.below HSU.out, ⟨hT2, HIT3.out, HPL.out⟩⟩
              · refine wp_runTo (some 10) rfl _ _ (exec_alloc _ _ _ 36 rfl _ zero36) ?_
                have hT := T36.new w6_5
                have hb := alloc_bel w6_5 (.cells #[.slice none 0 0, .slice none 0 0, .int .i64 0, .int .i64 0] 36)
                have HS6_8 := Lib.hid (stay HS6_5.out hb)
                have HTB8 := Lib.hid HS6_5.out.size
                have HT8 := Lib.hid hT
                have HR8 := Lib.hid (HR5.out.below hb)
                refine hK _ _ HS6_8.out ?_
                clear hK K hT hb
                try simp only [Act.put, List.setIfInBounds_toArray, List.set_cons_succ, List.set_cons_zero]
                generalize w6_5.alloc (.cells #[.slice none 0 0, .slice none 0 0, .int .i64 0, .int .i64 0] 36) = w6_8 at *
                generalize w6_5.heap.size = t at *
                refine oneH 10 (by kernel_rfl) rfl rfl fun K hK => ?_
                go_simp
                refine (HRD1.out _ _ HR8.out).mono ?_
                rintro e w6_9 ⟨hro, hb⟩
                obtain ⟨iv, pl, dv, hpl, rfl, hit, hin⟩ := hro.some
                have hpn : pl.length = a.length := by
                  have := congrArg List.length hpl
                  rw [List.length_map, HAN.out] at this
                  exact this
                obtain ⟨ia, ic, hia⟩ := items_one hit
                rw [hpn] at hia
                obtain ⟨da, dc, hda⟩ := hin.form
                have hal : (lay2 n A).2.length = a.length := by rw [lay2_at, HAN.out]
                rw [hal] at hda
                subst hia
                subst hda
                rw [HT.out, HP.out]
                have HI9 := Lib.hid hit
                have HPL := Lib.hid hpl
                have HS6_9 := Lib.hid (stay HS6_8.out hb)
                have HT9 := Lib.hid (HT8.out.below hb)
                refine hK _ _ HS6_9.out ?_
                clear hK K hro hb hit hin hpl hpn hal
                try simp only [Act.put, List.setIfInBounds_toArray, List.set_cons_succ, List.set_cons_zero]
                refine takeH 11 (some 59) (.tuple #[.agg #[.slice ia a.length ic, .slice da a.length dc, .int .i64 T, .int .i64 P], .bool true]) rfl rfl (by kernel_rfl) (by kernel_rfl) (by kernel_rfl) (fun _ _ _ h => h) rfl (fun wq hS => by go_simp) HS6_9.out ?_
                try simp only [Act.put, List.setIfInBounds_toArray, List.set_cons_succ, List.set_cons_zero]
                refine takeH 12 (some 71) (.agg #[.slice ia a.length ic, .slice da a.length dc, .int .i64 T, .int .i64 P]) rfl rfl (by kernel_rfl) (by kernel_rfl) (by kernel_rfl) (fun _ _ _ h => h) rfl (fun wq hS => by go_simp) HS6_9.out ?_
                try simp only [Act.put, List.setIfInBounds_toArray, List.set_cons_succ, List.set_cons_zero]
                refine takeH 13 (some 72) (.bool true) rfl rfl (by kernel_rfl) (by kernel_rfl) (by kernel_rfl) (fun _ _ _ h => h) rfl (fun wq hS => by go_simp) HS6_9.out ?_
                try simp only [Act.put, List.setIfInBounds_toArray, List.set_cons_succ, List.set_cons_zero]
                refine oneH 15 (by kernel_rfl) rfl rfl fun K hK => ?_
                refine wp_store_all 36 _ _ rfl t #[.slice ia a.length ic, .slice da a.length dc, .int .i64 T, .int .i64 P] rfl rfl _ HT9.out.blk rfl info36 (four_one _ _ _ _ _ _ _ _) ?_
                intro wT hT2 hOT
                have HIT3 := Lib.hid (HI9.out.only HT9.out.blk noit36 hOT)
                have hbf := hOT.below HS6_9.out.size (fun k hk => by have := HTB8.out; omega)
                have HSU := Lib.hid (HS6_9.out.trans hbf)
                refine hK _ _ HSU.out ?_
                clear hK K
                try simp only [Act.put, List.setIfInBounds_toArray, List.set_cons_succ, List.set_cons_zero]
                refine takeH 16 (some 11) (.bool true) rfl rfl (by kernel_rfl) (by kernel_rfl) (by kernel_rfl) (fun _ _ _ h => h) rfl (fun wq hS => by go_simp) HSU.out ?_
                try simp only [Act.put, List.setIfInBounds_toArray, List.set_cons_succ, List.set_cons_zero]
                refine wpAnyH_done (by kernel_rfl) ?_ _
                go_wp2_with fail
                go_meet
                exact ⟨t, ia, da, ic, dc, pl, rfl, rfl, HBS.out.below HSU.out, ⟨hT2, HIT3.out, HPL.out⟩⟩
            · refine wp_runTo (some 10) rfl _ _ (exec_alloc _ _ _ 36 rfl _ zero36) ?_
              have hT := T36.new w6_4
              have hb := alloc_bel w6_4 (.cells #[.slice none 0 0, .slice none 0 0, .int .i64 0, .int .i64 0] 36)
              have HS6_10 := Lib.hid (stay HS6_4.out hb)
              have HTB10 := Lib.hid HS6_4.out.size
              have HT10 := Lib.hid hT
              have HO10 := Lib.hid (HO4.out.below hb)
              have HL10 := Lib.hid (HL4.out.below hb)
              refine hK _ _ HS6_10.out ?_
              clear hK K hT hb
              try simp only [Act.put, List.setIfInBounds_toArray, List.set_cons_succ, List.set_cons_zero]
              generalize w6_4.alloc (.cells #[.slice none 0 0, .slice none 0 0, .int .i64 0, .int .i64 0] 36) = w6_10 at *
              generalize w6_4.heap.size = t at *
              refine oneH 9 (by kernel_rfl) rfl rfl fun K hK => ?_
              refine app_WS (some 69) rfl HO10.out HS6_10.out.size HL10.out (by rw [HT.out]; simp only [List.length_cons, List.length_nil]; omega) _ _ rfl rfl rfl ?_
              intro s11 w6_11 ho hg
              have HS6_11 := Lib.hid (HS6_10.out.trans (grown_below hg HS6_10.out.size fun k hk => (HO10.out.lt k hk).1))
              have HT11 := Lib.hid (HT10.out.grown HO10.out hg)
              have HR11 := Lib.hid ho.secs
              obtain ⟨aq, cq, hsq, -⟩ := ho.len
              rw [List.length_append, HT.out, show ([rp 64 b] : List (List Int)).length = 1 from rfl] at hsq
              subst hsq
              refine hK _ _ HS6_11.out ?_
              clear hK K ho hg
              try simp only [Act.put, List.setIfInBounds_toArray, List.set_cons_succ, List.set_cons_zero]
              refine oneH 10 (by kernel_rfl) rfl rfl fun K hK => ?_
              go_simp
              refine (HRD1.out _ _ HR11.out).mono ?_
              rintro e w6_12 ⟨hro, hb⟩
              obtain ⟨iv, pl, dv, hpl, rfl, hit, hin⟩ := hro.some
              have hpn : pl.length = a.length := by
                have := congrArg List.length hpl
                rw [List.length_map, HAN.out] at this
                exact this
              obtain ⟨ia, ic, hia⟩ := items_one hit
              rw [hpn] at hia
              obtain ⟨da, dc, hda⟩ := hin.form
              have hal : (lay2 n A).2.length = a.length := by rw [lay2_at, HAN.out]
              rw [hal] at hda
              subst hia
              subst hda
              rw [HT.out, HP.out]
              have HI12 := Lib.hid hit
              have HPL := Lib.hid hpl
              have HS6_12 := Lib.hid (stay HS6_11.out hb)
              have HT12 := Lib.hid (HT11.out.below hb)
              refine hK _ _ HS6_12.out ?_
              clear hK K hro hb hit hin hpl hpn hal
              try simp only [Act.put, List.setIfInBounds_toArray, List.set_cons_succ, List.set_cons_zero]
              refine takeH 11 (some 59) (.tuple #[.agg #[.slice ia a.length ic, .slice da a.length dc, .int .i64 T, .int .i64 P], .bool true]) rfl rfl (by kernel_rfl) (by kernel_rfl) (by kernel_rfl) (fun _ _ _ h => h) rfl (fun wq hS => by go_simp) HS6_12.out ?_
              try simp only [Act.put, List.setIfInBounds_toArray, List.set_cons_succ, List.set_cons_zero]
              refine takeH 12 (some 71) (.agg #[.slice ia a.length ic, .slice da a.length dc, .int .i64 T, .int .i64 P]) rfl rfl (by kernel_rfl) (by kernel_rfl) (by kernel_rfl) (fun _ _ _ h => h) rfl (fun wq hS => by go_simp) HS6_12.out ?_
              try simp only [Act.put, List.setIfInBounds_toArray, List.set_cons_succ, List.set_cons_zero]
              refine takeH 13 (some 72) (.bool true) rfl rfl (by kernel_rfl) (by kernel_rfl) (by kernel_rfl) (fun _ _ _ h => h) rfl (fun wq hS => by go_simp) HS6_12.out ?_
              try simp only [Act.put, List.setIfInBounds_toArray, List.set_cons_succ, List.set_cons_zero]
              refine oneH 15 (by kernel_rfl) rfl rfl fun K hK => ?_
              refine wp_store_all 36 _ _ rfl t #[.slice ia a.length ic, .slice da a.length dc, .int .i64 T, .int .i64 P] rfl rfl _ HT12.out.blk rfl info36 (four_one _ _ _ _ _ _ _ _) ?_
              intro wT hT2 hOT
              have HIT3 := Lib.hid (HI12.out.only HT12.out.blk noit36 hOT)
              have hbf := hOT.below HS6_12.out.size (fun k hk => by have := HTB10.out; omega)
              have HSU := Lib.hid (HS6_12.out.trans hbf)
              refine hK _ _ HSU.out ?_
              clear hK K
              try simp only [Act.put, List.setIfInBounds_toArray, List.set_cons_succ, List.set_cons_zero]
              refine takeH 16 (some 11) (.bool true) rfl rfl (by kernel_rfl) (by kernel_rfl) (by kernel_rfl) (fun _ _ _ h => h) rfl (fun wq hS => by go_simp) HSU.out ?_
              try simp only [Act.put, List.setIfInBounds_toArray, List.set_cons_succ, List.set_cons_zero]
              refine wpAnyH_done (by kernel_rfl) ?_ _
              go_wp2_with fail
              go_meet
              exact ⟨t, ia, da, ic, dc, pl, rfl, rfl, HBS.out.below HSU.out, ⟨hT2, HIT3.out, HPL.out⟩⟩
          · refine wp_runTo (some 10) rfl _ _ (exec_alloc _ _ _ 36 rfl _ zero36) ?_
            have hT := T36.new w6_3
            have hb := alloc_bel w6_3 (.cells #[.slice none 0 0, .slice none 0 0, .int .i64 0, .int .i64 0] 36)
            have HS6_13 := Lib.hid (stay HS6_3.out hb)
            have HTB13 := Lib.hid HS6_3.out.size
            have HT13 := Lib.hid hT
            have HO13 := Lib.hid (HO3.out.below hb)
            refine hK _ _ HS6_13.out ?_
            clear hK K hT hb
            try simp only [Act.put, List.setIfInBounds_toArray, List.set_cons_succ, List.set_cons_zero]
            generalize w6_3.alloc (.cells #[.slice none 0 0, .slice none 0 0, .int .i64 0, .int .i64 0] 36) = w6_13 at *
            generalize w6_3.heap.size = t at *
            refine oneH 8 (by kernel_rfl) rfl rfl fun K hK => ?_
            refine wp_runTo (some 68) rfl _ _ (exec_buildSlice _ _ _ _ 24 1 _ rfl #[(0, .agg (u8s (rp 64 b)).toArray)] (by simp only [List.map_toArray, List.map_cons, List.map_nil]; rfl) _ (run_litS w6_13 (rp 64 b) HRP.out)) ?_
            have hb := alloc_bel w6_13 (.cells (secCells [rp 64 b]).toArray 50)
            have HL14 := Lib.hid (litS_secs (w := w6_13) HRP.out)
            have HS6_14 := Lib.hid (stay HS6_13.out hb)
            have HO14 := Lib.hid (HO13.out.below hb)
            have HT14 := Lib.hid (HT13.out.below hb)
            refine hK _ _ HS6_14.out ?_
            clear hK K hb
            try simp only [Act.put, List.setIfInBounds_toArray, List.set_cons_succ, List.set_cons_zero]
            generalize w6_13.alloc (.cells (secCells [rp 64 b]).toArray 50) = w6_14 at *
            generalize w6_13.heap.size = k1 at *
            refine oneH 9 (by kernel_rfl) rfl rfl fun K hK => ?_
            refine app_WS (some 69) rfl HO14.out HS6_14.out.size HL14.out (by rw [HT.out]; simp only [List.length_cons, List.length_nil]; omega) _ _ rfl rfl rfl ?_
            intro s15 w6_15 ho hg
            have HS6_15 := Lib.hid (HS6_14.out.trans (grown_below hg HS6_14.out.size fun k hk => (HO14.out.lt k hk).1))
            have HT15 := Lib.hid (HT14.out.grown HO14.out hg)
            have HR15 := Lib.hid ho.secs
            obtain ⟨aq, cq, hsq, -⟩ := ho.len
            rw [List.length_append, HT.out, show ([rp 64 b] : List (List Int)).length = 1 from rfl] at hsq
            subst hsq
            refine hK _ _ HS6_15.out ?_
            clear hK K ho hg
            try simp only [Act.put, List.setIfInBounds_toArray, List.set_cons_succ, List.set_cons_zero]
            refine oneH 10 (by kernel_rfl) rfl rfl fun K hK => ?_
            go_simp
            refine (HRD1.out _ _ HR15.out).mono ?_
            rintro e w6_16 ⟨hro, hb⟩
            obtain ⟨iv, pl, dv, hpl, rfl, hit, hin⟩ := hro.some
            have hpn : pl.length = a.length := by
              have := congrArg List.length hpl
              rw [List.length_map, HAN.out] at this
              exact this
            obtain ⟨ia, ic, hia⟩ := items_one hit
            rw [hpn] at hia
            obtain ⟨da, dc, hda⟩ := hin.form
            have hal : (lay2 n A).2.length = a.length := by rw [lay2_at, HAN.out]
            rw [hal] at hda
            subst hia
            subst hda
            rw [HT.out, HP.out]
            have HI16 := Lib.hid hit
            have HPL := Lib.hid hpl
            have HS6_16 := Lib.hid (stay HS6_15.out hb)
            have HT16 := Lib.hid (HT15.out.below hb)
            refine hK _ _ HS6_16.out ?_
            clear hK K hro hb hit hin hpl hpn hal
            try simp only [Act.put, List.setIfInBounds_toArray, List.set_cons_succ, List.set_cons_zero]
            refine takeH 11 (some 59) (.tuple #[.agg #[.slice ia a.length ic, .slice da a.length dc, .int .i64 T, .int .i64 P], .bool true]) rfl rfl (by kernel_rfl) (by kernel_rfl) (by kernel_rfl) (fun _ _ _ h => h) rfl (fun wq hS => by go_simp) HS6_16.out ?_
            try simp only [Act.put, List.setIfInBounds_toArray, List.set_cons_succ, List.set_cons_zero]
            refine takeH 12 (some 71) (.agg #[.slice ia a.length ic, .slice da a.length dc, .int .i64 T, .int .i64 P]) rfl rfl (by kernel_rfl) (by kernel_rfl) (by kernel_rfl) (fun _ _ _ h => h) rfl (fun wq hS => by go_simp) HS6_16.out ?_
            try simp only [Act.put, List.setIfInBounds_toArray, List.set_cons_succ, List.set_cons_zero]
            refine takeH 13 (some 72) (.bool true) rfl rfl (by kernel_rfl) (by kernel_rfl) (by kernel_rfl) (fun _ _ _ h => h) rfl (fun wq hS => by go_simp) HS6_16.out ?_
            try simp only [Act.put, List.setIfInBounds_toArray, List.set_cons_succ, List.set_cons_zero]
            refine oneH 15 (by kernel_rfl) rfl rfl fun K hK => ?_
            refine wp_store_all 36 _ _ rfl t #[.slice ia a.length ic, .slice da a.length dc, .int .i64 T, .int .i64 P] rfl rfl _ HT16.out.blk rfl info36 (four_one _ _ _ _ _ _ _ _) ?_
            intro wT hT2 hOT
            have HIT3 := Lib.hid (HI16.out.only HT16.out.blk noit36 hOT)
            have hbf := hOT.below HS6_16.out.size (fun k hk => by have := HTB13.out; omega)
            have HSU := Lib.hid (HS6_16.out.trans hbf)
            refine hK _ _ HSU.out ?_
            clear hK K
            try simp only [Act.put, List.setIfInBounds_toArray, List.set_cons_succ, List.set_cons_zero]
            refine takeH 16 (some 11) (.bool true) rfl rfl (by kernel_rfl) (by kernel_rfl) (by kernel_rfl) (fun _ _ _ h => h) rfl (fun wq hS => by go_simp) HSU.out ?_
            try simp only [Act.put, List.setIfInBounds_toArray, List.set_cons_succ, List.set_cons_zero]
            refine wpAnyH_done (by kernel_rfl) ?_ _
            go_wp2_with fail
            go_meet
            exact ⟨t, ia, da, ic, dc, pl, rfl, rfl, HBS.out.below HSU.out, ⟨hT2, HIT3.out, HPL.out⟩⟩
        · refine wp_runTo (some 10) rfl _ _ (exec_alloc _ _ _ 36 rfl _ zero36) ?_
          have hT := T36.new w6_2
          have hb := alloc_bel w6_2 (.cells #[.slice none 0 0, .slice none 0 0, .int .i64 0, .int .i64 0] 36)
          have HS6_17 := Lib.hid (stay HS6_2.out hb)
          have HTB17 := Lib.hid HS6_2.out.size
          have HT17 := Lib.hid hT
          have HO17 := Lib.hid (HO2.out.below hb)
          refine hK _ _ HS6_17.out ?_
          clear hK K hT hb
          try simp only [Act.put, List.setIfInBounds_toArray, List.set_cons_succ, List.set_cons_zero]
          generalize w6_2.alloc (.cells #[.slice none 0 0, .slice none 0 0, .int .i64 0, .int .i64 0] 36) = w6_17 at *
          generalize w6_2.heap.size = t at *
          refine oneH 7 (by kernel_rfl) rfl rfl fun K hK => ?_
          go_simp
          refine (HFL.out w6_17).mono ?_
          rintro e w6_18 ⟨rfl, hb⟩
          have HS6_18 := Lib.hid (stay HS6_17.out hb)
          have HO18 := Lib.hid (HO17.out.below hb)
          have HT18 := Lib.hid (HT17.out.below hb)
          refine hK _ _ HS6_18.out ?_
          clear hK K hb
          try simp only [Act.put, List.setIfInBounds_toArray, List.set_cons_succ, List.set_cons_zero]
          refine oneH 8 (by kernel_rfl) rfl rfl fun K hK => ?_
          refine wp_runTo (some 68) rfl _ _ (exec_buildSlice _ _ _ _ 24 1 _ rfl #[(0, .agg (u8s (rp 64 b)).toArray)] (by simp only [List.map_toArray, List.map_cons, List.map_nil]; rfl) _ (run_litS w6_18 (rp 64 b) HRP.out)) ?_
          have hb := alloc_bel w6_18 (.cells (secCells [rp 64 b]).toArray 50)
          have HL19 := Lib.hid (litS_secs (w := w6_18) HRP.out)
          have HS6_19 := Lib.hid (stay HS6_18.out hb)
          have HO19 := Lib.hid (HO18.out.below hb)
          have HT19 := Lib.hid (HT18.out.below hb)
          refine hK _ _ HS6_19.out ?_
          clear hK K hb
          try simp only [Act.put, List.setIfInBounds_toArray, List.set_cons_succ, List.set_cons_zero]
          generalize w6_18.alloc (.cells (secCells [rp 64 b]).toArray 50) = w6_19 at *
          generalize w6_18.heap.size = k1 at *
          refine oneH 9 (by kernel_rfl) rfl rfl fun K hK => ?_
          refine app_WS (some 69) rfl HO19.out HS6_19.out.size HL19.out (by rw [HT.out]; simp only [List.length_cons, List.length_nil]; omega) _ _ rfl rfl rfl ?_
          intro s20 w6_20 ho hg
          have HS6_20 := Lib.hid (HS6_19.out.trans (grown_below hg HS6_19.out.size fun k hk => (HO19.out.lt k hk).1))
          have HT20 := Lib.hid (HT19.out.grown HO19.out hg)
          have HR20 := Lib.hid ho.secs
          obtain ⟨aq, cq, hsq, -⟩ := ho.len
          rw [List.length_append, HT.out, show ([rp 64 b] : List (List Int)).length = 1 from rfl] at hsq
          subst hsq
          refine hK _ _ HS6_20.out ?_
          clear hK K ho hg
          try simp only [Act.put, List.setIfInBounds_toArray, List.set_cons_succ, List.set_cons_zero]
          refine oneH 10 (by kernel_rfl) rfl rfl fun K hK => ?_
          go_simp
          refine (HRD1.out _ _ HR20.out).mono ?_
          rintro e w6_21 ⟨hro, hb⟩
          obtain ⟨iv, pl, dv, hpl, rfl, hit, hin⟩ := hro.some
          have hpn : pl.length = a.length := by
            have := congrArg List.length hpl
            rw [List.length_map, HAN.out] at this
            exact this
          obtain ⟨ia, ic, hia⟩ := items_one hit
          rw [hpn] at hia
          obtain ⟨da, dc, hda⟩ := hin.form
          have hal : (lay2 n A).2.length = a.length := by rw [lay2_at, HAN.out]
          rw [hal] at hda
          subst hia
          subst hda
          rw [HT.out, HP.out]
          have HI21 := Lib.hid hit
          have HPL := Lib.hid hpl
          have HS6_21 := Lib.hid (stay HS6_20.out hb)
          have HT21 := Lib.hid (HT20.out.below hb)
          refine hK _ _ HS6_21.out ?_
          clear hK K hro hb hit hin hpl hpn hal
          try simp only [Act.put, List.setIfInBounds_toArray, List.set_cons_succ, List.set_cons_zero]
          refine takeH 11 (some 59) (.tuple #[.agg #[.slice ia a.length ic, .slice da a.length dc, .int .i64 T, .int .i64 P], .bool true]) rfl rfl (by kernel_rfl) (by kernel_rfl) (by kernel_rfl) (fun _ _ _ h => h) rfl (fun wq hS => by go_simp) HS6_21.out ?_
          try simp only [Act.put, List.setIfInBounds_toArray, List.set_cons_succ, List.set_cons_zero]
          refine takeH 12 (some 71) (.agg #[.slice ia a.length ic, .slice da a.length dc, .int .i64 T, .int .i64 P]) rfl rfl (by kernel_rfl) (by kernel_rfl) (by kernel_rfl) (fun _ _ _ h => h) rfl (fun wq hS => by go_simp) HS6_21.out ?_
          try simp only [Act.put, List.setIfInBounds_toArray, List.set_cons_succ, List.set_cons_zero]
          refine takeH 13 (some 72) (.bool true) rfl rfl (by kernel_rfl) (by kernel_rfl) (by kernel_rfl) (fun _ _ _ h => h) rfl (fun wq hS => by go_simp) HS6_21.out ?_
          try simp only [Act.put, List.setIfInBounds_toArray, List.set_cons_succ, List.set_cons_zero]
          refine oneH 15 (by kernel_rfl) rfl rfl fun K hK => ?_
          refine wp_store_all 36 _ _ rfl t #[.slice ia a.length ic, .slice da a.length dc, .int .i64 T, .int .i64 P] rfl rfl _ HT21.out.blk rfl info36 (four_one _ _ _ _ _ _ _ _) ?_
          intro wT hT2 hOT
          have HIT3 := Lib.hid (HI21.out.only HT21.out.blk noit36 hOT)
          have hbf := hOT.below HS6_21.out.size (fun k hk => by have := HTB17.out; omega)
          have HSU := Lib.hid (HS6_21.out.trans hbf)
          refine hK _ _ HSU.out ?_
          clear hK K
          try simp only [Act.put, List.setIfInBounds_toArray, List.set_cons_succ, List.set_cons_zero]
          refine takeH 16 (some 11) (.bool true) rfl rfl (by kernel_rfl) (by kernel_rfl) (by kernel_rfl) (fun _ _ _ h => h) rfl (fun wq hS => by go_simp) HSU.out ?_
          try simp only [Act.put, List.setIfInBounds_toArray, List.set_cons_succ, List.set_cons_zero]
          refine wpAnyH_done (by kernel_rfl) ?_ _
          go_wp2_with fail
          go_meet
          exact ⟨t, ia, da, ic, dc, pl, rfl, rfl, HBS.out.below HSU.out, ⟨hT2, HIT3.out, HPL.out⟩⟩
      · refine wp_runTo (some 10) rfl _ _ (exec_alloc _ _ _ 36 rfl _ zero36) ?_
        have hT := T36.new w6_1
        have hb := alloc_bel w6_1 (.cells #[.slice none 0 0, .slice none 0 0, .int .i64 0, .int .i64 0] 36)
        have HS6_22 := Lib.hid (stay HS6_1.out hb)
        have HTB22 := Lib.hid HS6_1.out.size
        have HT22 := Lib.hid hT
        have HO22 := Lib.hid (HO1.out.below hb)
        refine hK _ _ HS6_22.out ?_
        clear hK K hT hb
        try simp only [Act.put, List.setIfInBounds_toArray, List.set_cons_succ, List.set_cons_zero]
        generalize w6_1.alloc (.cells #[.slice none 0 0, .slice none 0 0, .int .i64 0, .int .i64 0] 36) = w6_22 at *
        generalize w6_1.heap.size = t at *
        refine oneH 4 (by kernel_rfl) rfl rfl fun K hK => ?_
        refine app_WS (some 64) rfl HO22.out HS6_22.out.size (HBS.out.below HS6_22.out).x (by rw [HT.out]; simp only [List.length_nil]; omega) _ _ rfl rfl rfl ?_
        intro s23 w6_23 ho hg
        have HS6_23 := Lib.hid (HS6_22.out.trans (grown_below hg HS6_22.out.size fun k hk => (HO22.out.lt k hk).1))
        have HT23 := Lib.hid (HT22.out.grown HO22.out hg)
        rw [List.nil_append] at ho
        have HO23 := Lib.hid ho
        refine hK _ _ HS6_23.out ?_
        clear hK K ho hg
        try simp only [Act.put, List.setIfInBounds_toArray, List.set_cons_succ, List.set_cons_zero]
        refine oneH 7 (by kernel_rfl) rfl rfl fun K hK => ?_
        go_simp
        refine (HFL.out w6_23).mono ?_
        rintro e w6_24 ⟨rfl, hb⟩
        have HS6_24 := Lib.hid (stay HS6_23.out hb)
        have HO24 := Lib.hid (HO23.out.below hb)
        have HT24 := Lib.hid (HT23.out.below hb)
        refine hK _ _ HS6_24.out ?_
        clear hK K hb
        try simp only [Act.put, List.setIfInBounds_toArray, List.set_cons_succ, List.set_cons_zero]
        refine oneH 8 (by kernel_rfl) rfl rfl fun K hK => ?_
        refine wp_runTo (some 68) rfl _ _ (exec_buildSlice _ _ _ _ 24 1 _ rfl #[(0, .agg (u8s (rp 64 b)).toArray)] (by simp only [List.map_toArray, List.map_cons, List.map_nil]; rfl) _ (run_litS w6_24 (rp 64 b) HRP.out)) ?_
        have hb := alloc_bel w6_24 (.cells (secCells [rp 64 b]).toArray 50)
        have HL25 := Lib.hid (litS_secs (w := w6_24) HRP.out)
        have HS6_25 := Lib.hid (stay HS6_24.out hb)
        have HO25 := Lib.hid (HO24.out.below hb)
        have HT25 := Lib.hid (HT24.out.below hb)
        refine hK _ _ HS6_25.out ?_
        clear hK K hb
        try simp only [Act.put, List.setIfInBounds_toArray, List.set_cons_succ, List.set_cons_zero]
        generalize w6_24.alloc (.cells (secCells [rp 64 b]).toArray 50) = w6_25 at *
        generalize w6_24.heap.size = k1 at *
        refine oneH 9 (by kernel_rfl) rfl rfl fun K hK => ?_
        refine app_WS (some 69) rfl HO25.out HS6_25.out.size HL25.out (by rw [HT.out]; simp only [List.length_cons, List.length_nil]; omega) _ _ rfl rfl rfl ?_
        intro s26 w6_26 ho hg
        have HS6_26 := Lib.hid (HS6_25.out.trans (grown_below hg HS6_25.out.size fun k hk => (HO25.out.lt k hk).1))
        have HT26 := Lib.hid (HT25.out.grown HO25.out hg)
        have HR26 := Lib.hid ho.secs
        obtain ⟨aq, cq, hsq, -⟩ := ho.len
        rw [List.length_append, HT.out, show ([rp 64 b] : List (List Int)).length = 1 from rfl] at hsq
        subst hsq
        refine hK _ _ HS6_26.out ?_
        clear hK K ho hg
        try simp only [Act.put, List.setIfInBounds_toArray, List.set_cons_succ, List.set_cons_zero]
        refine oneH 10 (by kernel_rfl) rfl rfl fun K hK => ?_
        go_simp
        refine (HRD1.out _ _ HR26.out).mono ?_
        rintro e w6_27 ⟨hro, hb⟩
        obtain ⟨iv, pl, dv, hpl, rfl, hit, hin⟩ := hro.some
        have hpn : pl.length = a.length := by
          have := congrArg List.length hpl
          rw [List.length_map, HAN.out] at this
          exact this
        obtain ⟨ia, ic, hia⟩ := items_one hit
        rw [hpn] at hia
        obtain ⟨da, dc, hda⟩ := hin.form
        have hal : (lay2 n A).2.length = a.length := by rw [lay2_at, HAN.out]
        rw [hal] at hda
        subst hia
        subst hda
        rw [HT.out, HP.out]
        have HI27 := Lib.hid hit
        have HPL := Lib.hid hpl
        have HS6_27 := Lib.hid (stay HS6_26.out hb)
        have HT27 := Lib.hid (HT26.out.below hb)
        refine hK _ _ HS6_27.out ?_
        clear hK K hro hb hit hin hpl hpn hal
        try simp only [Act.put, List.setIfInBounds_toArray, List.set_cons_succ, List.set_cons_zero]
        refine takeH 11 (some 59) (.tuple #[.agg #[.slice ia a.length ic, .slice da a.length dc, .int .i64 T, .int .i64 P], .bool true]) rfl rfl (by kernel_rfl) (by kernel_rfl) (by kernel_rfl) (fun _ _ _ h => h) rfl (fun wq hS => by go_simp) HS6_27.out ?_
        try simp only [Act.put, List.setIfInBounds_toArray, List.set_cons_succ, List.set_cons_zero]
        refine takeH 12 (some 71) (.agg #[.slice ia a.length ic, .slice da a.length dc, .int .i64 T, .int .i64 P]) rfl rfl (by kernel_rfl) (by kernel_rfl) (by kernel_rfl) (fun _ _ _ h => h) rfl (fun wq hS => by go_simp) HS6_27.out ?_
        try simp only [Act.put, List.setIfInBounds_toArray, List.set_cons_succ, List.set_cons_zero]
        refine takeH 13 (some 72) (.bool true) rfl rfl (by kernel_rfl) (by kernel_rfl) (by kernel_rfl) (fun _ _ _ h => h) rfl (fun wq hS => by go_simp) HS6_27.out ?_
        try simp only [Act.put, List.setIfInBounds_toArray, List.set_cons_succ, List.set_cons_zero]
        refine oneH 15 (by kernel_rfl) rfl rfl fun K hK => ?_
        refine wp_store_all 36 _ _ rfl t #[.slice ia a.length ic, .slice da a.length dc, .int .i64 T, .int .i64 P] rfl rfl _ HT27.out.blk rfl info36 (four_one _ _ _ _ _ _ _ _) ?_
        intro wT hT2 hOT
        have HIT3 := Lib.hid (HI27.out.only HT27.out.blk noit36 hOT)
        have hbf := hOT.below HS6_27.out.size (fun k hk => by have := HTB22.out; omega)
        have HSU := Lib.hid (HS6_27.out.trans hbf)
        refine hK _ _ HSU.out ?_
        clear hK K
        try simp only [Act.put, List.setIfInBounds_toArray, List.set_cons_succ, List.set_cons_zero]
        refine takeH 16 (some 11) (.bool true) rfl rfl (by kernel_rfl) (by kernel_rfl) (by kernel_rfl) (fun _ _ _ h => h) rfl (fun wq hS => by go_simp) HSU.out ?_
        try simp only [Act.put, List.setIfInBounds_toArray, List.set_cons_succ, List.set_cons_zero]
        refine wpAnyH_done (by kernel_rfl) ?_ _
        go_wp2_with fail
        go_meet
        exact ⟨t, ia, da, ic, dc, pl, rfl, rfl, HBS.out.below HSU.out, ⟨hT2, HIT3.out, HPL.out⟩⟩
    · refine wp_runTo (some 10) rfl _ _ (exec_alloc _ _ _ 36 rfl _ zero36) ?_
      have hT := T36.new wS
      have hb := alloc_bel wS (.cells #[.slice none 0 0, .slice none 0 0, .int .i64 0, .int .i64 0] 36)
      have HS6_28 := Lib.hid (stay HSX.out hb)
      have HTB28 := Lib.hid HSX.out.size
      have HT28 := Lib.hid hT
      refine hK _ _ HS6_28.out ?_
      clear hK K hT hb
      try simp only [Act.put, List.setIfInBounds_toArray, List.set_cons_succ, List.set_cons_zero]
      generalize wS.alloc (.cells #[.slice none 0 0, .slice none 0 0, .int .i64 0, .int .i64 0] 36) = w6_28 at *
      generalize wS.heap.size = t at *
      refine oneH 2 (by kernel_rfl) rfl rfl fun K hK => ?_
      refine wp_runTo (some 62) rfl _ _ (exec_buildSlice _ _ _ _ 24 0 _ rfl #[] (by simp) _ (run_S0 w6_28)) ?_
      have hb := alloc_bel w6_28 (.cells #[] 50)
      have HO29 := Lib.hid ((lit0S w6_28 w3.heap.size HS6_28.out.size))
      have HS6_29 := Lib.hid (stay HS6_28.out hb)
      have HT29 := Lib.hid (HT28.out.below hb)
      refine hK _ _ HS6_29.out ?_
      clear hK K hb
      try simp only [Act.put, List.setIfInBounds_toArray, List.set_cons_succ, List.set_cons_zero]
      generalize w6_28.alloc (.cells #[] 50) = w6_29 at *
      generalize w6_28.heap.size = k0 at *
      refine oneH 4 (by kernel_rfl) rfl rfl fun K hK => ?_
      refine app_WS (some 64) rfl HO29.out HS6_29.out.size (HBS.out.below HS6_29.out).x (by rw [HT.out]; simp only [List.length_nil]; omega) _ _ rfl rfl rfl ?_
      intro s30 w6_30 ho hg
      have HS6_30 := Lib.hid (HS6_29.out.trans (grown_below hg HS6_29.out.size fun k hk => (HO29.out.lt k hk).1))
      have HT30 := Lib.hid (HT29.out.grown HO29.out hg)
      rw [List.nil_append] at ho
      have HO30 := Lib.hid ho
      refine hK _ _ HS6_30.out ?_
      clear hK K ho hg
      try simp only [Act.put, List.setIfInBounds_toArray, List.set_cons_succ, List.set_cons_zero]
      refine oneH 7 (by kernel_rfl) rfl rfl fun K hK => ?_
      go_simp
      refine (HFL.out w6_30).mono ?_
      rintro e w6_31 ⟨rfl, hb⟩
      have HS6_31 := Lib.hid (stay HS6_30.out hb)
      have HO31 := Lib.hid (HO30.out.below hb)
      have HT31 := Lib.hid (HT30.out.below hb)
      refine hK _ _ HS6_31.out ?_
      clear hK K hb
      try simp only [Act.put, List.setIfInBounds_toArray, List.set_cons_succ, List.set_cons_zero]
      refine oneH 8 (by kernel_rfl) rfl rfl fun K hK => ?_
      refine wp_runTo (some 68) rfl _ _ (exec_buildSlice _ _ _ _ 24 1 _ rfl #[(0, .agg (u8s (rp 64 b)).toArray)] (by simp only [List.map_toArray, List.map_cons, List.map_nil]; rfl) _ (run_litS w6_31 (rp 64 b) HRP.out)) ?_
      have hb := alloc_bel w6_31 (.cells (secCells [rp 64 b]).toArray 50)
      have HL32 := Lib.hid (litS_secs (w := w6_31) HRP.out)
      have HS6_32 := Lib.hid (stay HS6_31.out hb)
      have HO32 := Lib.hid (HO31.out.below hb)
      have HT32 := Lib.hid (HT31.out.below hb)
      refine hK _ _ HS6_32.out ?_
      clear hK K hb
      try simp only [Act.put, List.setIfInBounds_toArray, List.set_cons_succ, List.set_cons_zero]
      generalize w6_31.alloc (.cells (secCells [rp 64 b]).toArray 50) = w6_32 at *
      generalize w6_31.heap.size = k1 at *
      refine oneH 9 (by kernel_rfl) rfl rfl fun K hK => ?_
      refine app_WS (some 69) rfl HO32.out HS6_32.out.size HL32.out (by rw [HT.out]; simp only [List.length_cons, List.length_nil]; omega) _ _ rfl rfl rfl ?_
      intro s33 w6_33 ho hg
      have HS6_33 := Lib.hid (HS6_32.out.trans (grown_below hg HS6_32.out.size fun k hk => (HO32.out.lt k hk).1))
      have HT33 := Lib.hid (HT32.out.grown HO32.out hg)
      have HR33 := Lib.hid ho.secs
      obtain ⟨aq, cq, hsq, -⟩ := ho.len
      rw [List.length_append, HT.out, show ([rp 64 b] : List (List Int)).length = 1 from rfl] at hsq
      subst hsq
      refine hK _ _ HS6_33.out ?_
      clear hK K ho hg
      try simp only [Act.put, List.setIfInBounds_toArray, List.set_cons_succ, List.set_cons_zero]
      refine oneH 10 (by kernel_rfl) rfl rfl fun K hK => ?_
      go_simp
      refine (HRD1.out _ _ HR33.out).mono ?_
      rintro e w6_34 ⟨hro, hb⟩
      obtain ⟨iv, pl, dv, hpl, rfl, hit, hin⟩ := hro.some
      have hpn : pl.length = a.length := by
        have := congrArg List.length hpl
        rw [List.length_map, HAN.out] at this
        exact this
      obtain ⟨ia, ic, hia⟩ := items_one hit
      rw [hpn] at hia
      obtain ⟨da, dc, hda⟩ := hin.form
      have hal : (lay2 n A).2.length = a.length := by rw [lay2_at, HAN.out]
      rw [hal] at hda
      subst hia
      subst hda
      rw [HT.out, HP.out]
      have HI34 := Lib.hid hit
      have HPL := Lib.hid hpl
      have HS6_34 := Lib.hid (stay HS6_33.out hb)
      have HT34 := Lib.hid (HT33.out.below hb)
      refine hK _ _ HS6_34.out ?_
      clear hK K hro hb hit hin hpl hpn hal
      try simp only [Act.put, List.setIfInBounds_toArray, List.set_cons_succ, List.set_cons_zero]
      refine takeH 11 (some 59) (.tuple #[.agg #[.slice ia a.length ic, .slice da a.length dc, .int .i64 T, .int .i64 P], .bool true]) rfl rfl (by kernel_rfl) (by kernel_rfl) (by kernel_rfl) (fun _ _ _ h => h) rfl (fun wq hS => by go_simp) HS6_34.out ?_
      try simp only [Act.put, List.setIfInBounds_toArray, List.set_cons_succ, List.set_cons_zero]
      refine takeH 12 (some 71) (.agg #[.slice ia a.length ic, .slice da a.length dc, .int .i64 T, .int .i64 P]) rfl rfl (by kernel_rfl) (by kernel_rfl) (by kernel_rfl) (fun _ _ _ h => h) rfl (fun wq hS => by go_simp) HS6_34.out ?_
      try simp only [Act.put, List.setIfInBounds_toArray, List.set_cons_succ, List.set_cons_zero]
      refine takeH 13 (some 72) (.bool true) rfl rfl (by kernel_rfl) (by kernel_rfl) (by kernel_rfl) (fun _ _ _ h => h) rfl (fun wq hS => by go_simp) HS6_34.out ?_
      try simp only [Act.put, List.setIfInBounds_toArray, List.set_cons_succ, List.set_cons_zero]
      refine oneH 15 (by kernel_rfl) rfl rfl fun K hK => ?_
      refine wp_store_all 36 _ _ rfl t #[.slice ia a.length ic, .slice da a.length dc, .int .i64 T, .int .i64 P] rfl rfl _ HT34.out.blk rfl info36 (four_one _ _ _ _ _ _ _ _) ?_
      intro wT hT2 hOT
      have HIT3 := Lib.hid (HI34.out.only HT34.out.blk noit36 hOT)
      have hbf := hOT.below HS6_34.out.size (fun k hk => by have := HTB28.out; omega)
      have HSU := Lib.hid (HS6_34.out.trans hbf)
      refine hK _ _ HSU.out ?_
      clear hK K
      try simp only [Act.put, List.setIfInBounds_toArray, List.set_cons_succ, List.set_cons_zero]
      refine takeH 16 (some 11) (.bool true) rfl rfl (by kernel_rfl) (by kernel_rfl) (by kernel_rfl) (fun _ _ _ h => h) rfl (fun wq hS => by go_simp) HSU.out ?_
      try simp only [Act.put, List.setIfInBounds_toArray, List.set_cons_succ, List.set_cons_zero]
      refine wpAnyH_done (by kernel_rfl) ?_ _
      go_wp2_with fail
      go_meet
      exact ⟨t, ia, da, ic, dc, pl, rfl, rfl, HBS.out.below HSU.out, ⟨hT2, HIT3.out, HPL.out⟩⟩
  case rest =>
    obtain ⟨t, ia, da, ic, dc, pl, rfl, rfl, hbs, hfd⟩ := hcut
    have HBS2 := Lib.hid hbs
    have HFD := Lib.hid hfd
    have HPN : Hid (pl.length = a.length) := Lib.hid (by
      have := congrArg List.length hfd.e
      rw [List.length_map, HAN.out] at this
      exact this)
    have HIQ := Lib.hid fun w h k => items_any (.slice ia a.length ic) av pl a (by rw [HPN.out]; have := HAL.out; omega) (by have := HAL.out; omega) w h k
    rw [hfd.e, HA.out, sameIts_yes rfl] at HIQ
    have HRM : Hid (∀ w', SecsAt w' (.slice (some ⟨gx, ox, none⟩) T cx) (lay2 n A).1 → Calls Try.prog 14 #[.int .u32 m, .slice (some ⟨gx, ox, none⟩) T cx] w' fun e w'' => (∃ i k c d l q x y, e = .returned (.tuple #[.agg #[.slice i k c, .slice d l q, .int .i64 x, .int .i64 y], .bool (decide (n = m))])) ∧ Below w'.heap.size w' w'') := Lib.hid fun w' h => by
      refine (readG_any m HSM.out (lay2 n A).1 T HT.out (by omega) _ w' h).mono ?_
      rintro e w'' ⟨hro, hb⟩
      refine ⟨?_, hb⟩
      by_cases hnm : n = m
      · subst hnm
        have := readP_lay (n := n) HMA.out HAW.out []
        rw [List.append_nil] at this
        rw [this] at hro
        obtain ⟨iv, pl2, dv, -, rfl, hit, hin⟩ := hro.some
        obtain ⟨i1, c1, rfl⟩ := items_one hit
        obtain ⟨d1, e1, rfl⟩ := hin.form
        exact ⟨_, _, _, _, _, _, _, _, by rw [decide_eq_true rfl]⟩
      · have := readP_other HSN.out HSM.out hnm HMA.out HAW.out [] (fun y hy => by cases hy)
        rw [List.append_nil] at this
        rw [this] at hro
        exact ⟨_, _, _, _, _, _, _, _, by rw [hro.no, decide_eq_false hnm]⟩
    obtain ⟨kk, hk0⟩ : ∃ kk : Nat, b % (T : Int) = (kk : Int) := ⟨(b % (T : Int)).toNat, by have := Int.emod_nonneg b (show (T : Int) ≠ 0 by omega); omega⟩
    have hkT : kk < T := by have := Int.emod_lt_of_pos b (show (0 : Int) < T by omega); omega
    have GK : Hid (b.tmod (T : Int) = (kk : Int)) := Lib.hid (by rw [Int.tmod_eq_emod_of_nonneg HBB.out.1, hk0])
    have HRS := Lib.hid fun w sv h => readG_any n HSN.out ((lay2 n A).1.take kk) kk (by rw [List.length_take, HT.out]; omega) (by omega) sv w h
    rw [readP_short HMA.out HAW.out (by rw [HT.out]; exact hkT)] at HRS
    clear hbs hfd HRD1 HFL HRP HBS hk0
    go_upto_region 7 with fail
    refine startH (fun wq => Below wc.heap.size wc wq) (by kernel_rfl) ?_
    have HSX : Hid (Below wc.heap.size wc wc.drew) := Lib.hid (Below.refl _ _).drew
    generalize wc.drew = wS at *
    refine takeH 0 (some 73) (.bool true) rfl rfl (by kernel_rfl) (by kernel_rfl) (by kernel_rfl) (fun _ _ _ h => h) rfl (fun wq hS => by go_simp) HSX.out ?_
    try simp only [Act.put, List.setIfInBounds_toArray, List.set_cons_succ, List.set_cons_zero]
    refine takeH 1 (some 74) (.bool false) rfl rfl (by kernel_rfl) (by kernel_rfl) (by kernel_rfl) (fun _ _ _ h => h) rfl (fun wq hS => by go_simp) HSX.out ?_
    try simp only [Act.put, List.setIfInBounds_toArray, List.set_cons_succ, List.set_cons_zero]
    refine takeH 2 (some 75) (.bool false) rfl rfl (by kernel_rfl) (by kernel_rfl) (by kernel_rfl) (fun _ _ _ h => h) rfl (fun wq hS => by go_simp) HSX.out ?_
    try simp only [Act.put, List.setIfInBounds_toArray, List.set_cons_succ, List.set_cons_zero]
    refine takeH 3 (some 76) (.pointer (some ⟨t, 0, none⟩)) rfl rfl (by kernel_rfl) (by kernel_rfl) (by kernel_rfl) (fun _ _ _ h => h) rfl (fun wq hS => by go_simp) HSX.out ?_
    try simp only [Act.put, List.setIfInBounds_toArray, List.set_cons_succ, List.set_cons_zero]
    refine takeH 4 (some 77) (.slice ia a.length ic) rfl rfl (by kernel_rfl) (by kernel_rfl) (by kernel_rfl) (fun _ _ _ h => h) rfl (fun wq hS => by have q : wq.cell? ⟨t, 0, none⟩ = some (.slice ia a.length ic) := (HFD.out.b.below hS HFD.out.b.lt).cell rfl; go_simp) HSX.out ?_
    try simp only [Act.put, List.setIfInBounds_toArray, List.set_cons_succ, List.set_cons_zero]
    refine takeH 5 (some 78) (av) rfl rfl (by kernel_rfl) (by kernel_rfl) (by kernel_rfl) (fun _ _ _ h => h) rfl (fun wq hS => by go_simp) HSX.out ?_
    try simp only [Act.put, List.setIfInBounds_toArray, List.set_cons_succ, List.set_cons_zero]
    refine oneH 6 (by kernel_rfl) rfl rfl fun K hK => ?_
    go_simp
    refine (HIQ.out _ (HFD.out.i.below HSX.out) (HIA.out.below (HBS2.out.below HSX.out).l)).mono ?_
    rintro e w10 ⟨rfl, hb⟩
    have HS10 := Lib.hid (stay HSX.out hb)
    refine hK _ _ HS10.out ?_
    clear hK K hb HSX HIQ
    try simp only [Act.put, List.setIfInBounds_toArray, List.set_cons_succ, List.set_cons_zero]
    refine takeH 7 (some 80) (.bool false) rfl rfl (by kernel_rfl) (by kernel_rfl) (by kernel_rfl) (fun _ _ _ h => h) rfl (fun wq hS => by go_simp) HS10.out ?_
    try simp only [Act.put, List.setIfInBounds_toArray, List.set_cons_succ, List.set_cons_zero]
    refine takeH 8 (some 81) (.bool false) rfl rfl (by kernel_rfl) (by kernel_rfl) (by kernel_rfl) (fun _ _ _ h => h) rfl (fun wq hS => by go_simp) HS10.out ?_
    try simp only [Act.put, List.setIfInBounds_toArray, List.set_cons_succ, List.set_cons_zero]
    refine takeH 9 (some 82) (.bool false) rfl rfl (by kernel_rfl) (by kernel_rfl) (by kernel_rfl) (fun _ _ _ h => h) rfl (fun wq hS => by go_simp) HS10.out ?_
    try simp only [Act.put, List.setIfInBounds_toArray, List.set_cons_succ, List.set_cons_zero]
    refine takeH 10 (some 83) (.pointer (some ⟨t, 2, none⟩)) rfl rfl (by kernel_rfl) (by kernel_rfl) (by kernel_rfl) (fun _ _ _ h => h) rfl (fun wq hS => by go_simp) HS10.out ?_
    try simp only [Act.put, List.setIfInBounds_toArray, List.set_cons_succ, List.set_cons_zero]
    refine takeH 11 (some 84) (.int .i64 T) rfl rfl (by kernel_rfl) (by kernel_rfl) (by kernel_rfl) (fun _ _ _ h => h) rfl (fun wq hS => by have q : wq.cell? ⟨t, 2, none⟩ = some (.int .i64 T) := (HFD.out.b.below hS HFD.out.b.lt).cell rfl; go_simp) HS10.out ?_
    try simp only [Act.put, List.setIfInBounds_toArray, List.set_cons_succ, List.set_cons_zero]
    refine takeH 12 (some 85) (.slice (some ⟨gx, ox, none⟩) T cx) rfl rfl (by kernel_rfl) (by kernel_rfl) (by kernel_rfl) (fun _ _ _ h => h) rfl (fun wq hS => by go_simp) HS10.out ?_
    try simp only [Act.put, List.setIfInBounds_toArray, List.set_cons_succ, List.set_cons_zero]
    refine takeH 13 (some 86) (.int .i64 T) rfl rfl (by kernel_rfl) (by kernel_rfl) (by kernel_rfl) (fun _ _ _ h => h) rfl (fun wq hS => by go_simp) HS10.out ?_
    try simp only [Act.put, List.setIfInBounds_toArray, List.set_cons_succ, List.set_cons_zero]
    refine takeH 14 (some 87) (.bool false) rfl rfl (by kernel_rfl) (by kernel_rfl) (by kernel_rfl) (fun _ _ _ h => h) rfl (fun wq hS => by go_simp) HS10.out ?_
    try simp only [Act.put, List.setIfInBounds_toArray, List.set_cons_succ, List.set_cons_zero]
    refine takeH 15 (some 88) (.bool false) rfl rfl (by kernel_rfl) (by kernel_rfl) (by kernel_rfl) (fun _ _ _ h => h) rfl (fun wq hS => by go_simp) HS10.out ?_
    try simp only [Act.put, List.setIfInBounds_toArray, List.set_cons_succ, List.set_cons_zero]
    refine takeH 16 (some 89) (.bool false) rfl rfl (by kernel_rfl) (by kernel_rfl) (by kernel_rfl) (fun _ _ _ h => h) rfl (fun wq hS => by go_simp) HS10.out ?_
    try simp only [Act.put, List.setIfInBounds_toArray, List.set_cons_succ, List.set_cons_zero]
    refine takeH 17 (some 90) (av) rfl rfl (by kernel_rfl) (by kernel_rfl) (by kernel_rfl) (fun _ _ _ h => h) rfl (fun wq hS => by go_simp) HS10.out ?_
    try simp only [Act.put, List.setIfInBounds_toArray, List.set_cons_succ, List.set_cons_zero]
    refine takeH 19 (some 92) (.slice (some ⟨gx, ox, none⟩) T cx) rfl rfl (by kernel_rfl) (by kernel_rfl) (by kernel_rfl) (fun _ _ _ h => h) rfl (fun wq hS => by go_simp) HS10.out ?_
    try simp only [Act.put, List.setIfInBounds_toArray, List.set_cons_succ, List.set_cons_zero]
    refine takeH 20 (some 93) (.int .i64 T) rfl rfl (by kernel_rfl) (by kernel_rfl) (by kernel_rfl) (fun _ _ _ h => h) rfl (fun wq hS => by go_simp) HS10.out ?_
    try simp only [Act.put, List.setIfInBounds_toArray, List.set_cons_succ, List.set_cons_zero]
    refine oneH 18 (by kernel_rfl) rfl rfl fun K hK => ?_
    go_simp
    refine (HSA.out _ (HIA.out.below (HBS2.out.below HS10.out).l)).mono ?_
    rintro e w11 ⟨rfl, hb⟩
    have HS11 := Lib.hid (stay HS10.out hb)
    refine hK _ _ HS11.out ?_
    clear hK K hb HS10 HSA
    try simp only [Act.put, List.setIfInBounds_toArray, List.set_cons_succ, List.set_cons_zero]
    refine takeH 21 (some 94) (.bool false) rfl rfl (by kernel_rfl) (by kernel_rfl) (by kernel_rfl) (fun _ _ _ h => h) rfl (fun wq hS => by go_simp) HS11.out ?_
    try simp only [Act.put, List.setIfInBounds_toArray, List.set_cons_succ, List.set_cons_zero]
    refine takeH 22 (some 95) (.bool false) rfl rfl (by kernel_rfl) (by kernel_rfl) (by kernel_rfl) (fun _ _ _ h => h) rfl (fun wq hS => by go_simp) HS11.out ?_
    try simp only [Act.put, List.setIfInBounds_toArray, List.set_cons_succ, List.set_cons_zero]
    refine takeH 23 (some 96) (.bool false) rfl rfl (by kernel_rfl) (by kernel_rfl) (by kernel_rfl) (fun _ _ _ h => h) rfl (fun wq hS => by go_simp) HS11.out ?_
    try simp only [Act.put, List.setIfInBounds_toArray, List.set_cons_succ, List.set_cons_zero]
    refine takeH 24 (some 97) (av) rfl rfl (by kernel_rfl) (by kernel_rfl) (by kernel_rfl) (fun _ _ _ h => h) rfl (fun wq hS => by go_simp) HS11.out ?_
    try simp only [Act.put, List.setIfInBounds_toArray, List.set_cons_succ, List.set_cons_zero]
    refine takeH 26 (some 99) (.pointer (some ⟨t, 3, none⟩)) rfl rfl (by kernel_rfl) (by kernel_rfl) (by kernel_rfl) (fun _ _ _ h => h) rfl (fun wq hS => by go_simp) HS11.out ?_
    try simp only [Act.put, List.setIfInBounds_toArray, List.set_cons_succ, List.set_cons_zero]
    refine takeH 27 (some 100) (.int .i64 P) rfl rfl (by kernel_rfl) (by kernel_rfl) (by kernel_rfl) (fun _ _ _ h => h) rfl (fun wq hS => by have q : wq.cell? ⟨t, 3, none⟩ = some (.int .i64 P) := (HFD.out.b.below hS HFD.out.b.lt).cell rfl; go_simp) HS11.out ?_
    try simp only [Act.put, List.setIfInBounds_toArray, List.set_cons_succ, List.set_cons_zero]
    refine oneH 25 (by kernel_rfl) rfl rfl fun K hK => ?_
    go_simp
    refine (HPA.out _ (HIA.out.below (HBS2.out.below HS11.out).l)).mono ?_
    rintro e w12 ⟨rfl, hb⟩
    have HS12 := Lib.hid (stay HS11.out hb)
    refine hK _ _ HS12.out ?_
    clear hK K hb HS11 HPA
    try simp only [Act.put, List.setIfInBounds_toArray, List.set_cons_succ, List.set_cons_zero]
    refine takeH 28 (some 101) (.bool false) rfl rfl (by kernel_rfl) (by kernel_rfl) (by kernel_rfl) (fun _ _ _ h => h) rfl (fun wq hS => by go_simp) HS12.out ?_
    try simp only [Act.put, List.setIfInBounds_toArray, List.set_cons_succ, List.set_cons_zero]
    refine takeH 29 (some 102) (.bool false) rfl rfl (by kernel_rfl) (by kernel_rfl) (by kernel_rfl) (fun _ _ _ h => h) rfl (fun wq hS => by go_simp) HS12.out ?_
    try simp only [Act.put, List.setIfInBounds_toArray, List.set_cons_succ, List.set_cons_zero]
    refine wpAnyH_done (by kernel_rfl) ?_ _
    have HBS3 := Lib.hid (HBS2.out.below HS12.out)
    clear HBS2 HFD HS12
    have c1 : w12.cell? ⟨w.heap.size, 1, none⟩ = some (.int .u32 m) := HBS3.out.p.cell rfl
    go_wp2_with fail
    refine (HRM.out _ HBS3.out.x).mono ?_
    rintro e w13 ⟨⟨i1, k1, c2, d1, l1, q1, x1, y1, rfl⟩, hb⟩
    have HBS4 := Lib.hid (HBS3.out.below hb)
    clear hb c1 HRM HBS3
    have HBS5 := Lib.hid (HBS4.out.below (alloc_bel w13 (.cells #[.slice i1 k1 c2, .slice d1 l1 q1, .int .i64 x1, .int .i64 y1] 36)))
    have c0 : (w13.alloc (.cells #[.slice i1 k1 c2, .slice d1 l1 q1, .int .i64 x1, .int .i64 y1] 36)).cell? ⟨w.heap.size, 0, none⟩ = some (.int .u32 n) := HBS5.out.p.cell rfl
    have c1 : (w13.alloc (.cells #[.slice i1 k1 c2, .slice d1 l1 q1, .int .i64 x1, .int .i64 y1] 36)).cell? ⟨w.heap.size, 1, none⟩ = some (.int .u32 m) := HBS5.out.p.cell rfl
    have d0 : (w13.alloc (.cells #[.slice i1 k1 c2, .slice d1 l1 q1, .int .i64 x1, .int .i64 y1] 36)).cell? ⟨w.heap.size + 1, 0, none⟩ = some (.int .u8 b) := HBS5.out.q.cell rfl
    go_upto_region 10 with fail
    generalize w13.alloc (.cells #[.slice i1 k1 c2, .slice d1 l1 q1, .int .i64 x1, .int .i64 y1] 36) = w14 at *
    generalize w13.heap.size = f13 at *
    clear HBS4
    have gnn : (!(decide (n = m) == (n == m))) = false := by by_cases h : n = m <;> simp [h]
    have gk := GK.out
    have hz0 : ¬ ((T : Int) = 0) := by omega
    have gwb : IntKind.i64.wrap b = b := wrap64 (by have := HBB.out.1; omega) (by have := HBB.out.2; omega)
    go_upto_region 13 with fail
    go_cut [15, 16] from 123 to 131 (fun s15 s16 wx => s16 = .bool false ∧ BS w wx gx ox cx T (lay2 n A).1 n m b c)
    case first =>
      clear c0 c1 d0 gnn gk hz0 gwb
      refine startH (fun wq => Below w14.heap.size w14 wq) (by kernel_rfl) ?_
      have HSX : Hid (Below w14.heap.size w14 w14.drew) := Lib.hid (Below.refl _ _).drew
      generalize w14.drew = wS at *
      refine takeH 0 (some 124) (.pointer (some ⟨w.heap.size, 0, none⟩)) rfl rfl (by kernel_rfl) (by kernel_rfl) (by kernel_rfl) (fun _ _ _ h => h) rfl (fun wq hS => by go_simp) HSX.out ?_
      try simp only [Act.put, List.setIfInBounds_toArray, List.set_cons_succ, List.set_cons_zero]
      refine takeH 1 (some 125) (.int .u32 n) rfl rfl (by kernel_rfl) (by kernel_rfl) (by kernel_rfl) (fun _ _ _ h => h) rfl (fun wq hS => by have q : wq.cell? ⟨w.heap.size, 0, none⟩ = some (.int .u32 n) := (HBS5.out.below hS).p.cell rfl; go_simp) HSX.out ?_
      try simp only [Act.put, List.setIfInBounds_toArray, List.set_cons_succ, List.set_cons_zero]
      refine takeH 2 (some 126) (.slice (some ⟨gx, ox, none⟩) T cx) rfl rfl (by kernel_rfl) (by kernel_rfl) (by kernel_rfl) (fun _ _ _ h => h) rfl (fun wq hS => by go_simp) HSX.out ?_
      try simp only [Act.put, List.setIfInBounds_toArray, List.set_cons_succ, List.set_cons_zero]
      refine takeH 3 (some 127) (.int .i64 kk) rfl rfl (by kernel_rfl) (by kernel_rfl) (by kernel_rfl) (fun _ _ _ h => h) rfl (fun wq hS => by go_simp) HSX.out ?_
      try simp only [Act.put, List.setIfInBounds_toArray, List.set_cons_succ, List.set_cons_zero]
      refine takeH 4 (some 128) (.slice (cutA (some ⟨gx, ox, none⟩) 0 cx 64) kk cx) rfl rfl (by kernel_rfl) (by kernel_rfl) (by kernel_rfl) (fun _ _ _ h => h) rfl (fun wq hS => by exact exec_upto24 wq _ _ _ _ rfl (some ⟨gx, ox, none⟩) T cx kk rfl rfl (by have := secs_cap HBS5.out.x; omega)) HSX.out ?_
      try simp only [Act.put, List.setIfInBounds_toArray, List.set_cons_succ, List.set_cons_zero]
      refine twoH 5 9 (by kernel_rfl) rfl rfl rfl rfl (fun K hK => ?_) (fun K hK => ?_)
      · go_simp
        refine (HRS.out _ _ (secs_upto (HBS5.out.below HSX.out).x (by omega))).mono ?_
        rintro e w15 ⟨hro, hb⟩
        have he := hro.no
        subst he
        have HS15 := Lib.hid (stay HSX.out hb)
        refine hK _ _ HS15.out ?_
        clear hK K hro hb
        try simp only [Act.put, List.setIfInBounds_toArray, List.set_cons_succ, List.set_cons_zero]
        refine takeH 6 (some 123) (.tuple #[.agg #[.slice none 0 0, .slice none 0 0, .int .i64 0, .int .i64 0], .bool false]) rfl rfl (by kernel_rfl) (by kernel_rfl) (by kernel_rfl) (fun _ _ _ h => h) rfl (fun wq hS => by go_simp) HS15.out ?_
        try simp only [Act.put, List.setIfInBounds_toArray, List.set_cons_succ, List.set_cons_zero]
        refine takeH 7 (some 130) (.agg #[.slice none 0 0, .slice none 0 0, .int .i64 0, .int .i64 0]) rfl rfl (by kernel_rfl) (by kernel_rfl) (by kernel_rfl) (fun _ _ _ h => h) rfl (fun wq hS => by go_simp) HS15.out ?_
        try simp only [Act.put, List.setIfInBounds_toArray, List.set_cons_succ, List.set_cons_zero]
        refine takeH 8 (some 131) (.bool false) rfl rfl (by kernel_rfl) (by kernel_rfl) (by kernel_rfl) (fun _ _ _ h => h) rfl (fun wq hS => by go_simp) HS15.out ?_
        try simp only [Act.put, List.setIfInBounds_toArray, List.set_cons_succ, List.set_cons_zero]
        refine oneH 9 (by kernel_rfl) rfl rfl fun K hK => ?_
        refine wp_runTo (some 15) rfl _ _ (exec_alloc _ _ _ 36 rfl _ zero36) ?_
        have hb := alloc_bel w15 (.cells #[.slice none 0 0, .slice none 0 0, .int .i64 0, .int .i64 0] 36)
        have HT5 := Lib.hid (T36.new w15)
        have HTB5 := Lib.hid HS15.out.size
        have HS16 := Lib.hid (stay HS15.out hb)
        refine hK _ _ HS16.out ?_
        clear hK K hb
        try simp only [Act.put, List.setIfInBounds_toArray, List.set_cons_succ, List.set_cons_zero]
        generalize w15.alloc (.cells #[.slice none 0 0, .slice none 0 0, .int .i64 0, .int .i64 0] 36) = w16 at *
        generalize w15.heap.size = t5 at *
        refine oneH 10 (by kernel_rfl) rfl rfl fun K hK => ?_
        refine wp_store_all 36 _ _ rfl t5 #[.slice none 0 0, .slice none 0 0, .int .i64 0, .int .i64 0] rfl rfl _ HT5.out.blk rfl info36 (four_one _ _ _ _ _ _ _ _) ?_
        intro wT hT2 hOT
        have hbf := hOT.below HS16.out.size (fun k hk => by have := HTB5.out; omega)
        have HSU := Lib.hid (HS16.out.trans hbf)
        refine hK _ _ HSU.out ?_
        clear hK K
        try simp only [Act.put, List.setIfInBounds_toArray, List.set_cons_succ, List.set_cons_zero]
        refine takeH 11 (some 16) (.bool false) rfl rfl (by kernel_rfl) (by kernel_rfl) (by kernel_rfl) (fun _ _ _ h => h) rfl (fun wq hS => by go_simp) HSU.out ?_
        try simp only [Act.put, List.setIfInBounds_toArray, List.set_cons_succ, List.set_cons_zero]
        refine wpAnyH_done (by kernel_rfl) ?_ _
        go_wp2_with fail
        go_meet
        exact ⟨rfl, HBS5.out.below HSU.out⟩
      · refine wp_runTo (some 15) rfl _ _ (exec_alloc _ _ _ 36 rfl _ zero36) ?_
        have hb := alloc_bel wS (.cells #[.slice none 0 0, .slice none 0 0, .int .i64 0, .int .i64 0] 36)
        have HT4 := Lib.hid (T36.new wS)
        have HTB5 := Lib.hid HSX.out.size
        have HS15 := Lib.hid (stay HSX.out hb)
        refine hK _ _ HS15.out ?_
        clear hK K hb
        try simp only [Act.put, List.setIfInBounds_toArray, List.set_cons_succ, List.set_cons_zero]
        generalize wS.alloc (.cells #[.slice none 0 0, .slice none 0 0, .int .i64 0, .int .i64 0] 36) = w15 at *
        generalize wS.heap.size = t5 at *
        refine oneH 5 (by kernel_rfl) rfl rfl fun K hK => ?_
        go_simp
        refine (HRS.out _ _ (secs_upto (HBS5.out.below HS15.out).x (by omega))).mono ?_
        rintro e w16 ⟨hro, hb⟩
        have he := hro.no
        subst he
        have HS16 := Lib.hid (stay HS15.out hb)
        have HT5 := Lib.hid (HT4.out.below hb)
        refine hK _ _ HS16.out ?_
        clear hK K hro hb
        try simp only [Act.put, List.setIfInBounds_toArray, List.set_cons_succ, List.set_cons_zero]
        refine takeH 6 (some 123) (.tuple #[.agg #[.slice none 0 0, .slice none 0 0, .int .i64 0, .int .i64 0], .bool false]) rfl rfl (by kernel_rfl) (by kernel_rfl) (by kernel_rfl) (fun _ _ _ h => h) rfl (fun wq hS => by go_simp) HS16.out ?_
        try simp only [Act.put, List.setIfInBounds_toArray, List.set_cons_succ, List.set_cons_zero]
        refine takeH 7 (some 130) (.agg #[.slice none 0 0, .slice none 0 0, .int .i64 0, .int .i64 0]) rfl rfl (by kernel_rfl) (by kernel_rfl) (by kernel_rfl) (fun _ _ _ h => h) rfl (fun wq hS => by go_simp) HS16.out ?_
        try simp only [Act.put, List.setIfInBounds_toArray, List.set_cons_succ, List.set_cons_zero]
        refine takeH 8 (some 131) (.bool false) rfl rfl (by kernel_rfl) (by kernel_rfl) (by kernel_rfl) (fun _ _ _ h => h) rfl (fun wq hS => by go_simp) HS16.out ?_
        try simp only [Act.put, List.setIfInBounds_toArray, List.set_cons_succ, List.set_cons_zero]
        refine oneH 10 (by kernel_rfl) rfl rfl fun K hK => ?_
        refine wp_store_all 36 _ _ rfl t5 #[.slice none 0 0, .slice none 0 0, .int .i64 0, .int .i64 0] rfl rfl _ HT5.out.blk rfl info36 (four_one _ _ _ _ _ _ _ _) ?_
        intro wT hT2 hOT
        have hbf := hOT.below HS16.out.size (fun k hk => by have := HTB5.out; omega)
        have HSU := Lib.hid (HS16.out.trans hbf)
        refine hK _ _ HSU.out ?_
        clear hK K
        try simp only [Act.put, List.setIfInBounds_toArray, List.set_cons_succ, List.set_cons_zero]
        refine takeH 11 (some 16) (.bool false) rfl rfl (by kernel_rfl) (by kernel_rfl) (by kernel_rfl) (fun _ _ _ h => h) rfl (fun wq hS => by go_simp) HSU.out ?_
        try simp only [Act.put, List.setIfInBounds_toArray, List.set_cons_succ, List.set_cons_zero]
        refine wpAnyH_done (by kernel_rfl) ?_ _
        go_wp2_with fail
        go_meet
        exact ⟨rfl, HBS5.out.below HSU.out⟩
    case rest =>
      obtain ⟨rfl, hbs⟩ := hcut
      have HBS6 := Lib.hid hbs
      clear hbs c0 c1 d0 gnn gk hz0 gwb HBS5
      have HRZ := Lib.hid fun w sv h => readG_any n HSN.out ((lay2 n A).1.set kk (zeros 64)) T (by rw [List.length_set, HT.out]) (by omega) sv w h
      rw [back_zero HMA.out HAW.out (by rw [HT.out]; exact hkT)] at HRZ
      clear HRS GK
      go_upto_region 16 with fail
      refine wp_region_lit ?_
      refine wpList_run (.slice (some ⟨wc.heap.size, 0, none⟩) 0 0) (wc.alloc (.cells #[] 50)) rfl (by go_simp) ?_
      try simp only [Act.put, List.setIfInBounds_toArray, List.set_cons_succ, List.set_cons_zero]
      have hO := Lib.hid (lit0S wc wc.heap.size (Nat.le_refl _))
      have hb := Lib.hid (alloc_bel wc (.cells #[] 50))
      generalize wc.alloc (.cells #[] 50) = w20 at *
      refine takeL (.slice (some ⟨gx, ox, none⟩) T cx) rfl (by go_simp) ?_
      try simp only [Act.put, List.setIfInBounds_toArray, List.set_cons_succ, List.set_cons_zero]
      refine app_LS hO.out hb.out.size (HBS6.out.below hb.out).x (by rw [HT.out]; simp only [List.length_nil]; omega) rfl rfl rfl ?_
      intro s17 w21 ho hg
      try simp only [Act.put, List.setIfInBounds_toArray, List.set_cons_succ, List.set_cons_zero]
      have HW := Lib.hid (hb.out.trans (grown_below hg hb.out.size fun k hk => (hO.out.lt k hk).1))
      rw [List.nil_append] at ho
      obtain ⟨g17, cap17, hs17, hrow, hge⟩ := own_row ho (by rw [HT.out]; omega)
      rw [HT.out] at hs17 hrow
      subst hs17
      have HR := Lib.hid hrow
      have HGE := Lib.hid hge
      clear ho hg hO hb hrow hge
      refine takeL (.slice (some ⟨g17, 0, none⟩) T cap17) rfl (by go_simp) ?_
      try simp only [Act.put, List.setIfInBounds_toArray, List.set_cons_succ, List.set_cons_zero]
      refine wpList_nil ?_
      have hkTi : (kk : Int) < (T : Int) := by omega
      go_upto_region 17 with fail
      refine wp_region_lit ?_
      refine takeL (.slice (some ⟨g17, 0, none⟩) T cap17) rfl (by go_simp) ?_
      try simp only [Act.put, List.setIfInBounds_toArray, List.set_cons_succ, List.set_cons_zero]
      refine takeL (.int .i64 kk) rfl (by go_simp) ?_
      try simp only [Act.put, List.setIfInBounds_toArray, List.set_cons_succ, List.set_cons_zero]
      refine build_g (build50 _) rfl ?_
      try simp only [Act.put, List.setIfInBounds_toArray, List.set_cons_succ, List.set_cons_zero]
      refine takeL (.pointer (some ⟨g17, kk * 64, none⟩)) rfl (by go_simp) ?_
      try simp only [Act.put, List.setIfInBounds_toArray, List.set_cons_succ, List.set_cons_zero]
      refine store_sec HR.out hkT zeros_sc rfl rfl rfl ?_
      intro w22 hr hO hsz
      try simp only [Act.put, List.setIfInBounds_toArray, List.set_cons_succ, List.set_cons_zero]
      have HR2 := Lib.hid hr
      have HW2 := Lib.hid (HW.out.trans (hO.below HW.out.size fun k hk => by rw [hk]; exact HGE.out))
      clear hr hO hsz HW HR
      refine wpList_nil ?_
      have c0 : w22.cell? ⟨w.heap.size, 0, none⟩ = some (.int .u32 n) := (HBS6.out.below HW2.out).p.cell rfl
      go_wp2_with fail
      refine (HRZ.out _ _ HR2.out.secs).mono ?_
      rintro e w23 ⟨hro, hb⟩
      have he := hro.no
      subst he
      have HW3 := Lib.hid (stay HW2.out hb)
      have HR3 := Lib.hid (HR2.out.below hb)
      clear hro hb c0 HR2 HW2 HRZ
      have gwc : IntKind.u32.wrap c = c := wrap32 (by have := HCC.out.1; omega) (by have := HCC.out.2; omega)
      have gwd : IntKind.u32.wrap (1 + c) = 1 + c := wrap32 (by have := HCC.out.1; omega) (by have := HCC.out.2; omega)
      have HW4 := Lib.hid (stay HW3.out (alloc_bel w23 (.cells #[.slice none 0 0, .slice none 0 0, .int .i64 0, .int .i64 0] 36)))
      have HR4 := Lib.hid (HR3.out.below (alloc_bel w23 (.cells #[.slice none 0 0, .slice none 0 0, .int .i64 0, .int .i64 0] 36)))
      have d1 : (w23.alloc (.cells #[.slice none 0 0, .slice none 0 0, .int .i64 0, .int .i64 0] 36)).cell? ⟨w.heap.size + 1, 1, none⟩ = some (.int .u8 c) := (HBS6.out.below HW4.out).q.cell rfl
      clear HW3 HR3
      go_upto_region 21 with fail
      generalize w23.alloc (.cells #[.slice none 0 0, .slice none 0 0, .int .i64 0, .int .i64 0] 36) = w24 at *
      generalize w23.heap.size = f23 at *
      go_upto_region 22 with fail
      obtain ⟨x, hx⟩ : ∃ x, (lay2 n A).1[kk]? = some x := ⟨_, List.getElem?_eq_getElem (by rw [HT.out]; exact hkT)⟩
      have HXX := Lib.hid hx
      have hxs : Sc x := lay2_sc HAW.out n x (List.mem_of_getElem? hx)
      have HXS := Lib.hid hxs
      have HXL : Hid ((u8s x).toArray.size = 64) := Lib.hid hxs.size
      have HD1 := Lib.hid fun w => rdecode_any x hxs w
      have HD2 := Lib.hid fun w => srdecode_any x hxs w
      have HDW := Lib.hid (decB_wf hxs)
      clear hx hxs d1 gwc gwd
      go_cut [21, 22] from 152 to 161 (fun s21 s22 wx => ∃ t1 t2 svb ma mc, s21 = .pointer (some ⟨t1, 0, none⟩) ∧ s22 = .pointer (some ⟨t2, 0, none⟩) ∧ TW w24 wx t1 t2 svb ma mc x)
      case first =>
        have HAT : Hid (∀ wq, Below w24.heap.size w24 wq → At wq gx (ox + kk * 64) (u8s x).toArray) := Lib.hid fun wq hq => (HBS6.out.below (stay HW4.out hq)).x.atSec HXX.out
        refine startH (fun wq => Below w24.heap.size w24 wq) (by kernel_rfl) ?_
        have HSX : Hid (Below w24.heap.size w24 w24.drew) := Lib.hid (Below.refl _ _).drew
        generalize w24.drew = wS at *
        refine takeH 0 (some 152) (.slice (some ⟨gx, ox, none⟩) T cx) rfl rfl (by kernel_rfl) (by kernel_rfl) (by kernel_rfl) (fun _ _ _ h => h) rfl (fun wq hS => by go_simp) HSX.out ?_
        try simp only [Act.put, List.setIfInBounds_toArray, List.set_cons_succ, List.set_cons_zero]
        refine takeH 1 (some 153) (.int .i64 kk) rfl rfl (by kernel_rfl) (by kernel_rfl) (by kernel_rfl) (fun _ _ _ h => h) rfl (fun wq hS => by go_simp) HSX.out ?_
        try simp only [Act.put, List.setIfInBounds_toArray, List.set_cons_succ, List.set_cons_zero]
        refine takeH 2 (some 154) (.pointer (some ⟨gx, ox + kk * 64, none⟩)) rfl rfl (by kernel_rfl) (by kernel_rfl) (by kernel_rfl) (fun _ _ _ h => h) rfl (fun wq hS => by go_simp) HSX.out ?_
        try simp only [Act.put, List.setIfInBounds_toArray, List.set_cons_succ, List.set_cons_zero]
        refine takeH 3 (some 155) (.agg ((u8s x).toArray)) rfl rfl (by kernel_rfl) (by kernel_rfl) (by kernel_rfl) (fun _ _ _ h => h) rfl (fun wq hS => exec_load_at wq _ _ 50 _ rfl (gx) ((ox + kk * 64)) rfl ((u8s x).toArray) _ Try.underlying50 rfl (by rw [HXL.out]; exact info50) (HAT.out wq hS)) HSX.out ?_
        try simp only [Act.put, List.setIfInBounds_toArray, List.set_cons_succ, List.set_cons_zero]
        refine takeH 5 (some 157) (.slice (some ⟨gx, ox, none⟩) T cx) rfl rfl (by kernel_rfl) (by kernel_rfl) (by kernel_rfl) (fun _ _ _ h => h) rfl (fun wq hS => by go_simp) HSX.out ?_
        try simp only [Act.put, List.setIfInBounds_toArray, List.set_cons_succ, List.set_cons_zero]
        refine takeH 6 (some 158) (.int .i64 kk) rfl rfl (by kernel_rfl) (by kernel_rfl) (by kernel_rfl) (fun _ _ _ h => h) rfl (fun wq hS => by go_simp) HSX.out ?_
        try simp only [Act.put, List.setIfInBounds_toArray, List.set_cons_succ, List.set_cons_zero]
        refine takeH 7 (some 159) (.pointer (some ⟨gx, ox + kk * 64, none⟩)) rfl rfl (by kernel_rfl) (by kernel_rfl) (by kernel_rfl) (fun _ _ _ h => h) rfl (fun wq hS => by go_simp) HSX.out ?_
        try simp only [Act.put, List.setIfInBounds_toArray, List.set_cons_succ, List.set_cons_zero]
        refine takeH 8 (some 160) (.agg ((u8s x).toArray)) rfl rfl (by kernel_rfl) (by kernel_rfl) (by kernel_rfl) (fun _ _ _ h => h) rfl (fun wq hS => exec_load_at wq _ _ 50 _ rfl (gx) ((ox + kk * 64)) rfl ((u8s x).toArray) _ Try.underlying50 rfl (by rw [HXL.out]; exact info50) (HAT.out wq hS)) HSX.out ?_
        try simp only [Act.put, List.setIfInBounds_toArray, List.set_cons_succ, List.set_cons_zero]
        refine threeH 4 10 11 (by kernel_rfl) rfl rfl rfl rfl rfl rfl (fun K hK => ?_) (fun K hK => ?_) (fun K hK => ?_) 
        · go_simp
          refine (HD1.out wS).mono ?_
          rintro e w22_1 ⟨svb, rfl, hby, hb, hfr⟩
          have HS22_1 := Lib.hid (stay HSX.out hb)
          have BY_1 := Lib.hid hby
          refine hK _ _ HS22_1.out ?_
          clear hK K hby hb hfr
          try simp only [Act.put, List.setIfInBounds_toArray, List.set_cons_succ, List.set_cons_zero]
          refine threeH 9 10 11 (by kernel_rfl) rfl rfl rfl rfl rfl rfl (fun K hK => ?_) (fun K hK => ?_) (fun K hK => ?_) 
          · go_simp
            refine (HD2.out w22_1).mono ?_
            rintro e w22_2 ⟨svm, rfl, hmk, hb⟩
            have HS22_2 := Lib.hid (stay HS22_1.out hb)
            have BY_2 := Lib.hid (BY_1.out.below hb)
            have MK_2 := Lib.hid hmk
            refine hK _ _ HS22_2.out ?_
            clear hK K hmk hb
            try simp only [Act.put, List.setIfInBounds_toArray, List.set_cons_succ, List.set_cons_zero]
            refine twoH 10 11 (by kernel_rfl) rfl rfl rfl rfl (fun K hK => ?_) (fun K hK => ?_) 
            · refine wp_runTo (some 21) rfl _ _ (exec_alloc _ _ _ 59 rfl _ zero59b) ?_
              have hb := alloc_bel w22_2 (.cells (gotA Bk.none nilv 0 0) 59)
              have NT1_3 := Lib.hid (Blk.new w22_2 (gotA Bk.none nilv 0 0) 59)
              have HS22_3 := Lib.hid (stay HS22_2.out hb)
              have T1B_3 := Lib.hid HS22_2.out.size
              have A1_3 := Lib.hid (away_new BY_2.out)
              have BY_3 := Lib.hid (BY_2.out.below hb)
              have MK_3 := Lib.hid (MK_2.out.below hb)
              refine hK _ _ HS22_3.out ?_
              clear hK K hb
              try simp only [Act.put, List.setIfInBounds_toArray, List.set_cons_succ, List.set_cons_zero]
              generalize w22_2.alloc (.cells (gotA Bk.none nilv 0 0) 59) = w22_3 at *
              generalize w22_2.heap.size = t1 at *
              refine oneH 11 (by kernel_rfl) rfl rfl fun K hK => ?_
              refine wp_runTo (some 22) rfl _ _ (exec_alloc _ _ _ 63 rfl _ zero63) ?_
              have hb := alloc_bel w22_3 (.cells #[.int .u32 0, .bool false, .slice none 0 0, .int .i64 0] 63)
              have NT2_4 := Lib.hid (Blk.new w22_3 #[.int .u32 0, .bool false, .slice none 0 0, .int .i64 0] 63)
              have HS22_4 := Lib.hid (stay HS22_3.out hb)
              have T2B_4 := Lib.hid HS22_3.out.size
              have A2_4 := Lib.hid (away_new BY_3.out)
              have NE_4 := Lib.hid (Nat.ne_of_lt NT1_3.out.lt)
              have BY_4 := Lib.hid (BY_3.out.below hb)
              have MK_4 := Lib.hid (MK_3.out.below hb)
              have T1_4 := Lib.hid (NT1_3.out.below hb NT1_3.out.lt)
              refine hK _ _ HS22_4.out ?_
              clear hK K hb
              try simp only [Act.put, List.setIfInBounds_toArray, List.set_cons_succ, List.set_cons_zero]
              generalize w22_3.alloc (.cells #[.int .u32 0, .bool false, .slice none 0 0, .int .i64 0] 63) = w22_4 at *
              generalize w22_3.heap.size = t2 at *
              refine oneH 12 (by kernel_rfl) rfl rfl fun K hK => ?_
              refine wp_store_all 59 _ _ rfl t1 (gotA (decB x) svb (decN x) (decE x)) rfl rfl _ T1_4.out (by rw [gotA_size HDW.out, Array.length_toList]; exact gotA_size none_wf _ _ _) (by rw [gotA_size HDW.out]; exact info59) (gotA_one _ BY_4.out _ _) ?_
              intro wP hT hO
              have hbf := hO.below HS22_4.out.size (fun k hk => by have := T1B_3.out; omega)
              have HSP := Lib.hid (HS22_4.out.trans hbf)
              have BYP := Lib.hid (BY_4.out.away hO A1_3.out)
              have MKP := Lib.hid (MK_4.out.only0 hO T1_4.out zeroed59 (decS_marks x))
              have T2P := Lib.hid (NT2_4.out.only hO (fun e => NE_4.out e.symm))
              have T1P := Lib.hid hT
              refine hK _ _ HSP.out ?_
              clear hK K hT hO hbf
              try simp only [Act.put, List.setIfInBounds_toArray, List.set_cons_succ, List.set_cons_zero]
              obtain ⟨ma, mc, hsm⟩ : ∃ ma mc, svm = .slice ma (decS x).marks.length mc := by
                obtain ⟨a, c, e, -⟩ := MKP.out
                exact ⟨a, c, e⟩
              subst hsm
              refine oneH 13 (by kernel_rfl) rfl rfl fun K hK => ?_
              refine wp_store_all 63 _ _ rfl t2 #[.int .u32 (decS x).seq, .bool (decS x).more, .slice ma (decS x).marks.length mc, .int .i64 (sdecE x)] rfl rfl _ T2P.out rfl info63 (four_onem _ _ _ _ _ _) ?_
              intro wR hT hO
              have hbf := hO.below HSP.out.size (fun k hk => by have := T2B_4.out; omega)
              have HSR := Lib.hid (HSP.out.trans hbf)
              have BYR := Lib.hid (BYP.out.away hO A2_4.out)
              have MKR := Lib.hid (MKP.out.only0 hO T2P.out zeroed63 (decS_marks x))
              have T1R := Lib.hid (T1P.out.only hO (NE_4.out))
              refine hK _ _ HSR.out ?_
              clear hK K hbf
              try simp only [Act.put, List.setIfInBounds_toArray, List.set_cons_succ, List.set_cons_zero]
              refine wpAnyH_done (by kernel_rfl) ?_ _
              go_wp2_with fail
              go_meet
              exact ⟨t1, t2, svb, ma, mc, rfl, rfl, HSR.out, T1B_3.out, T2B_4.out, T1R.out, hT, BYR.out, MKR.out, NE_4.out⟩
            · refine wp_runTo (some 22) rfl _ _ (exec_alloc _ _ _ 63 rfl _ zero63) ?_
              have hb := alloc_bel w22_2 (.cells #[.int .u32 0, .bool false, .slice none 0 0, .int .i64 0] 63)
              have NT2_5 := Lib.hid (Blk.new w22_2 #[.int .u32 0, .bool false, .slice none 0 0, .int .i64 0] 63)
              have HS22_5 := Lib.hid (stay HS22_2.out hb)
              have T2B_5 := Lib.hid HS22_2.out.size
              have A2_5 := Lib.hid (away_new BY_2.out)
              have BY_5 := Lib.hid (BY_2.out.below hb)
              have MK_5 := Lib.hid (MK_2.out.below hb)
              refine hK _ _ HS22_5.out ?_
              clear hK K hb
              try simp only [Act.put, List.setIfInBounds_toArray, List.set_cons_succ, List.set_cons_zero]
              generalize w22_2.alloc (.cells #[.int .u32 0, .bool false, .slice none 0 0, .int .i64 0] 63) = w22_5 at *
              generalize w22_2.heap.size = t2 at *
              refine oneH 10 (by kernel_rfl) rfl rfl fun K hK => ?_
              refine wp_runTo (some 21) rfl _ _ (exec_alloc _ _ _ 59 rfl _ zero59b) ?_
              have hb := alloc_bel w22_5 (.cells (gotA Bk.none nilv 0 0) 59)
              have NT1_6 := Lib.hid (Blk.new w22_5 (gotA Bk.none nilv 0 0) 59)
              have HS22_6 := Lib.hid (stay HS22_5.out hb)
              have T1B_6 := Lib.hid HS22_5.out.size
              have A1_6 := Lib.hid (away_new BY_5.out)
              have NE_6 := Lib.hid (Nat.ne_of_lt NT2_5.out.lt)
              have BY_6 := Lib.hid (BY_5.out.below hb)
              have MK_6 := Lib.hid (MK_5.out.below hb)
              have T2_6 := Lib.hid (NT2_5.out.below hb NT2_5.out.lt)
              refine hK _ _ HS22_6.out ?_
              clear hK K hb
              try simp only [Act.put, List.setIfInBounds_toArray, List.set_cons_succ, List.set_cons_zero]
              generalize w22_5.alloc (.cells (gotA Bk.none nilv 0 0) 59) = w22_6 at *
              generalize w22_5.heap.size = t1 at *
              refine oneH 12 (by kernel_rfl) rfl rfl fun K hK => ?_
              refine wp_store_all 59 _ _ rfl t1 (gotA (decB x) svb (decN x) (decE x)) rfl rfl _ NT1_6.out (by rw [gotA_size HDW.out, Array.length_toList]; exact gotA_size none_wf _ _ _) (by rw [gotA_size HDW.out]; exact info59) (gotA_one _ BY_6.out _ _) ?_
              intro wP hT hO
              have hbf := hO.below HS22_6.out.size (fun k hk => by have := T1B_6.out; omega)
              have HSP := Lib.hid (HS22_6.out.trans hbf)
              have BYP := Lib.hid (BY_6.out.away hO A1_6.out)
              have MKP := Lib.hid (MK_6.out.only0 hO NT1_6.out zeroed59 (decS_marks x))
              have T2P := Lib.hid (T2_6.out.only hO (fun e => NE_6.out.symm e.symm))
              have T1P := Lib.hid hT
              refine hK _ _ HSP.out ?_
              clear hK K hT hO hbf
              try simp only [Act.put, List.setIfInBounds_toArray, List.set_cons_succ, List.set_cons_zero]
              obtain ⟨ma, mc, hsm⟩ : ∃ ma mc, svm = .slice ma (decS x).marks.length mc := by
                obtain ⟨a, c, e, -⟩ := MKP.out
                exact ⟨a, c, e⟩
              subst hsm
              refine oneH 13 (by kernel_rfl) rfl rfl fun K hK => ?_
              refine wp_store_all 63 _ _ rfl t2 #[.int .u32 (decS x).seq, .bool (decS x).more, .slice ma (decS x).marks.length mc, .int .i64 (sdecE x)] rfl rfl _ T2P.out rfl info63 (four_onem _ _ _ _ _ _) ?_
              intro wR hT hO
              have hbf := hO.below HSP.out.size (fun k hk => by have := T2B_5.out; omega)
              have HSR := Lib.hid (HSP.out.trans hbf)
              have BYR := Lib.hid (BYP.out.away hO A2_5.out)
              have MKR := Lib.hid (MKP.out.only0 hO T2P.out zeroed63 (decS_marks x))
              have T1R := Lib.hid (T1P.out.only hO (NE_6.out.symm))
              refine hK _ _ HSR.out ?_
              clear hK K hbf
              try simp only [Act.put, List.setIfInBounds_toArray, List.set_cons_succ, List.set_cons_zero]
              refine wpAnyH_done (by kernel_rfl) ?_ _
              go_wp2_with fail
              go_meet
              exact ⟨t1, t2, svb, ma, mc, rfl, rfl, HSR.out, T1B_6.out, T2B_5.out, T1R.out, hT, BYR.out, MKR.out, NE_6.out.symm⟩
          · refine wp_runTo (some 21) rfl _ _ (exec_alloc _ _ _ 59 rfl _ zero59b) ?_
            have hb := alloc_bel w22_1 (.cells (gotA Bk.none nilv 0 0) 59)
            have NT1_7 := Lib.hid (Blk.new w22_1 (gotA Bk.none nilv 0 0) 59)
            have HS22_7 := Lib.hid (stay HS22_1.out hb)
            have T1B_7 := Lib.hid HS22_1.out.size
            have A1_7 := Lib.hid (away_new BY_1.out)
            have BY_7 := Lib.hid (BY_1.out.below hb)
            refine hK _ _ HS22_7.out ?_
            clear hK K hb
            try simp only [Act.put, List.setIfInBounds_toArray, List.set_cons_succ, List.set_cons_zero]
            generalize w22_1.alloc (.cells (gotA Bk.none nilv 0 0) 59) = w22_7 at *
            generalize w22_1.heap.size = t1 at *
            refine twoH 9 11 (by kernel_rfl) rfl rfl rfl rfl (fun K hK => ?_) (fun K hK => ?_) 
            · go_simp
              refine (HD2.out w22_7).mono ?_
              rintro e w22_8 ⟨svm, rfl, hmk, hb⟩
              have HS22_8 := Lib.hid (stay HS22_7.out hb)
              have BY_8 := Lib.hid (BY_7.out.below hb)
              have T1_8 := Lib.hid (NT1_7.out.below hb NT1_7.out.lt)
              have MK_8 := Lib.hid hmk
              refine hK _ _ HS22_8.out ?_
              clear hK K hmk hb
              try simp only [Act.put, List.setIfInBounds_toArray, List.set_cons_succ, List.set_cons_zero]
              refine oneH 11 (by kernel_rfl) rfl rfl fun K hK => ?_
              refine wp_runTo (some 22) rfl _ _ (exec_alloc _ _ _ 63 rfl _ zero63) ?_
              have hb := alloc_bel w22_8 (.cells #[.int .u32 0, .bool false, .slice none 0 0, .int .i64 0] 63)
              have NT2_9 := Lib.hid (Blk.new w22_8 #[.int .u32 0, .bool false, .slice none 0 0, .int .i64 0] 63)
              have HS22_9 := Lib.hid (stay HS22_8.out hb)
              have T2B_9 := Lib.hid HS22_8.out.size
              have A2_9 := Lib.hid (away_new BY_8.out)
              have NE_9 := Lib.hid (Nat.ne_of_lt T1_8.out.lt)
              have BY_9 := Lib.hid (BY_8.out.below hb)
              have MK_9 := Lib.hid (MK_8.out.below hb)
              have T1_9 := Lib.hid (T1_8.out.below hb T1_8.out.lt)
              refine hK _ _ HS22_9.out ?_
              clear hK K hb
              try simp only [Act.put, List.setIfInBounds_toArray, List.set_cons_succ, List.set_cons_zero]
              generalize w22_8.alloc (.cells #[.int .u32 0, .bool false, .slice none 0 0, .int .i64 0] 63) = w22_9 at *
              generalize w22_8.heap.size = t2 at *
              refine oneH 12 (by kernel_rfl) rfl rfl fun K hK => ?_
              refine wp_store_all 59 _ _ rfl t1 (gotA (decB x) svb (decN x) (decE x)) rfl rfl _ T1_9.out (by rw [gotA_size HDW.out, Array.length_toList]; exact gotA_size none_wf _ _ _) (by rw [gotA_size HDW.out]; exact info59) (gotA_one _ BY_9.out _ _) ?_
              intro wP hT hO
              have hbf := hO.below HS22_9.out.size (fun k hk => by have := T1B_7.out; omega)
              have HSP := Lib.hid (HS22_9.out.trans hbf)
              have BYP := Lib.hid (BY_9.out.away hO A1_7.out)
              have MKP := Lib.hid (MK_9.out.only0 hO T1_9.out zeroed59 (decS_marks x))
              have T2P := Lib.hid (NT2_9.out.only hO (fun e => NE_9.out e.symm))
              have T1P := Lib.hid hT
              refine hK _ _ HSP.out ?_
              clear hK K hT hO hbf
              try simp only [Act.put, List.setIfInBounds_toArray, List.set_cons_succ, List.set_cons_zero]
              obtain ⟨ma, mc, hsm⟩ : ∃ ma mc, svm = .slice ma (decS x).marks.length mc := by
                obtain ⟨a, c, e, -⟩ := MKP.out
                exact ⟨a, c, e⟩
              subst hsm
              refine oneH 13 (by kernel_rfl) rfl rfl fun K hK => ?_
              refine wp_store_all 63 _ _ rfl t2 #[.int .u32 (decS x).seq, .bool (decS x).more, .slice ma (decS x).marks.length mc, .int .i64 (sdecE x)] rfl rfl _ T2P.out rfl info63 (four_onem _ _ _ _ _ _) ?_
              intro wR hT hO
              have hbf := hO.below HSP.out.size (fun k hk => by have := T2B_9.out; omega)
              have HSR := Lib.hid (HSP.out.trans hbf)
              have BYR := Lib.hid (BYP.out.away hO A2_9.out)
              have MKR := Lib.hid (MKP.out.only0 hO T2P.out zeroed63 (decS_marks x))
              have T1R := Lib.hid (T1P.out.only hO (NE_9.out))
              refine hK _ _ HSR.out ?_
              clear hK K hbf
              try simp only [Act.put, List.setIfInBounds_toArray, List.set_cons_succ, List.set_cons_zero]
              refine wpAnyH_done (by kernel_rfl) ?_ _
              go_wp2_with fail
              go_meet
              exact ⟨t1, t2, svb, ma, mc, rfl, rfl, HSR.out, T1B_7.out, T2B_9.out, T1R.out, hT, BYR.out, MKR.out, NE_9.out⟩
            · refine wp_runTo (some 22) rfl _ _ (exec_alloc _ _ _ 63 rfl _ zero63) ?_
              have hb := alloc_bel w22_7 (.cells #[.int .u32 0, .bool false, .slice none 0 0, .int .i64 0] 63)
              have NT2_10 := Lib.hid (Blk.new w22_7 #[.int .u32 0, .bool false, .slice none 0 0, .int .i64 0] 63)
              have HS22_10 := Lib.hid (stay HS22_7.out hb)
              have T2B_10 := Lib.hid HS22_7.out.size
              have A2_10 := Lib.hid (away_new BY_7.out)
              have NE_10 := Lib.hid (Nat.ne_of_lt NT1_7.out.lt)
              have BY_10 := Lib.hid (BY_7.out.below hb)
              have T1_10 := Lib.hid (NT1_7.out.below hb NT1_7.out.lt)
              refine hK _ _ HS22_10.out ?_
              clear hK K hb
              try simp only [Act.put, List.setIfInBounds_toArray, List.set_cons_succ, List.set_cons_zero]
              generalize w22_7.alloc (.cells #[.int .u32 0, .bool false, .slice none 0 0, .int .i64 0] 63) = w22_10 at *
              generalize w22_7.heap.size = t2 at *
              refine oneH 9 (by kernel_rfl) rfl rfl fun K hK => ?_
              go_simp
              refine (HD2.out w22_10).mono ?_
              rintro e w22_11 ⟨svm, rfl, hmk, hb⟩
              have HS22_11 := Lib.hid (stay HS22_10.out hb)
              have BY_11 := Lib.hid (BY_10.out.below hb)
              have T1_11 := Lib.hid (T1_10.out.below hb T1_10.out.lt)
              have T2_11 := Lib.hid (NT2_10.out.below hb NT2_10.out.lt)
              have MK_11 := Lib.hid hmk
              refine hK _ _ HS22_11.out ?_
              clear hK K hmk hb
              try simp only [Act.put, List.setIfInBounds_toArray, List.set_cons_succ, List.set_cons_zero]
              refine oneH 12 (by kernel_rfl) rfl rfl fun K hK => ?_
              refine wp_store_all 59 _ _ rfl t1 (gotA (decB x) svb (decN x) (decE x)) rfl rfl _ T1_11.out (by rw [gotA_size HDW.out, Array.length_toList]; exact gotA_size none_wf _ _ _) (by rw [gotA_size HDW.out]; exact info59) (gotA_one _ BY_11.out _ _) ?_
              intro wP hT hO
              have hbf := hO.below HS22_11.out.size (fun k hk => by have := T1B_7.out; omega)
              have HSP := Lib.hid (HS22_11.out.trans hbf)
              have BYP := Lib.hid (BY_11.out.away hO A1_7.out)
              have MKP := Lib.hid (MK_11.out.only0 hO T1_11.out zeroed59 (decS_marks x))
              have T2P := Lib.hid (T2_11.out.only hO (fun e => NE_10.out e.symm))
              have T1P := Lib.hid hT
              refine hK _ _ HSP.out ?_
              clear hK K hT hO hbf
              try simp only [Act.put, List.setIfInBounds_toArray, List.set_cons_succ, List.set_cons_zero]
              obtain ⟨ma, mc, hsm⟩ : ∃ ma mc, svm = .slice ma (decS x).marks.length mc := by
                obtain ⟨a, c, e, -⟩ := MKP.out
                exact ⟨a, c, e⟩
              subst hsm
              refine oneH 13 (by kernel_rfl) rfl rfl fun K hK => ?_
              refine wp_store_all 63 _ _ rfl t2 #[.int .u32 (decS x).seq, .bool (decS x).more, .slice ma (decS x).marks.length mc, .int .i64 (sdecE x)] rfl rfl _ T2P.out rfl info63 (four_onem _ _ _ _ _ _) ?_
              intro wR hT hO
              have hbf := hO.below HSP.out.size (fun k hk => by have := T2B_10.out; omega)
              have HSR := Lib.hid (HSP.out.trans hbf)
              have BYR := Lib.hid (BYP.out.away hO A2_10.out)
              have MKR := Lib.hid (MKP.out.only0 hO T2P.out zeroed63 (decS_marks x))
              have T1R := Lib.hid (T1P.out.only hO (NE_10.out))
              refine hK _ _ HSR.out ?_
              clear hK K hbf
              try simp only [Act.put, List.setIfInBounds_toArray, List.set_cons_succ, List.set_cons_zero]
              refine wpAnyH_done (by kernel_rfl) ?_ _
              go_wp2_with fail
              go_meet
              exact ⟨t1, t2, svb, ma, mc, rfl, rfl, HSR.out, T1B_7.out, T2B_10.out, T1R.out, hT, BYR.out, MKR.out, NE_10.out⟩
          · refine wp_runTo (some 22) rfl _ _ (exec_alloc _ _ _ 63 rfl _ zero63) ?_
            have hb := alloc_bel w22_1 (.cells #[.int .u32 0, .bool false, .slice none 0 0, .int .i64 0] 63)
            have NT2_12 := Lib.hid (Blk.new w22_1 #[.int .u32 0, .bool false, .slice none 0 0, .int .i64 0] 63)
            have HS22_12 := Lib.hid (stay HS22_1.out hb)
            have T2B_12 := Lib.hid HS22_1.out.size
            have A2_12 := Lib.hid (away_new BY_1.out)
            have BY_12 := Lib.hid (BY_1.out.below hb)
            refine hK _ _ HS22_12.out ?_
            clear hK K hb
            try simp only [Act.put, List.setIfInBounds_toArray, List.set_cons_succ, List.set_cons_zero]
            generalize w22_1.alloc (.cells #[.int .u32 0, .bool false, .slice none 0 0, .int .i64 0] 63) = w22_12 at *
            generalize w22_1.heap.size = t2 at *
            refine twoH 9 10 (by kernel_rfl) rfl rfl rfl rfl (fun K hK => ?_) (fun K hK => ?_) 
            · go_simp
              refine (HD2.out w22_12).mono ?_
              rintro e w22_13 ⟨svm, rfl, hmk, hb⟩
              have HS22_13 := Lib.hid (stay HS22_12.out hb)
              have BY_13 := Lib.hid (BY_12.out.below hb)
              have T2_13 := Lib.hid (NT2_12.out.below hb NT2_12.out.lt)
              have MK_13 := Lib.hid hmk
              refine hK _ _ HS22_13.out ?_
              clear hK K hmk hb
              try simp only [Act.put, List.setIfInBounds_toArray, List.set_cons_succ, List.set_cons_zero]
              refine oneH 10 (by kernel_rfl) rfl rfl fun K hK => ?_
              refine wp_runTo (some 21) rfl _ _ (exec_alloc _ _ _ 59 rfl _ zero59b) ?_
              have hb := alloc_bel w22_13 (.cells (gotA Bk.none nilv 0 0) 59)
              have NT1_14 := Lib.hid (Blk.new w22_13 (gotA Bk.none nilv 0 0) 59)
              have HS22_14 := Lib.hid (stay HS22_13.out hb)
              have T1B_14 := Lib.hid HS22_13.out.size
              have A1_14 := Lib.hid (away_new BY_13.out)
              have NE_14 := Lib.hid (Nat.ne_of_lt T2_13.out.lt)
              have BY_14 := Lib.hid (BY_13.out.below hb)
              have MK_14 := Lib.hid (MK_13.out.below hb)
              have T2_14 := Lib.hid (T2_13.out.below hb T2_13.out.lt)
              refine hK _ _ HS22_14.out ?_
              clear hK K hb
              try simp only [Act.put, List.setIfInBounds_toArray, List.set_cons_succ, List.set_cons_zero]
              generalize w22_13.alloc (.cells (gotA Bk.none nilv 0 0) 59) = w22_14 at *
              generalize w22_13.heap.size = t1 at *
              refine oneH 12 (by kernel_rfl) rfl rfl fun K hK => ?_
              refine wp_store_all 59 _ _ rfl t1 (gotA (decB x) svb (decN x) (decE x)) rfl rfl _ NT1_14.out (by rw [gotA_size HDW.out, Array.length_toList]; exact gotA_size none_wf _ _ _) (by rw [gotA_size HDW.out]; exact info59) (gotA_one _ BY_14.out _ _) ?_
              intro wP hT hO
              have hbf := hO.below HS22_14.out.size (fun k hk => by have := T1B_14.out; omega)
              have HSP := Lib.hid (HS22_14.out.trans hbf)
              have BYP := Lib.hid (BY_14.out.away hO A1_14.out)
              have MKP := Lib.hid (MK_14.out.only0 hO NT1_14.out zeroed59 (decS_marks x))
              have T2P := Lib.hid (T2_14.out.only hO (fun e => NE_14.out.symm e.symm))
              have T1P := Lib.hid hT
              refine hK _ _ HSP.out ?_
              clear hK K hT hO hbf
              try simp only [Act.put, List.setIfInBounds_toArray, List.set_cons_succ, List.set_cons_zero]
              obtain ⟨ma, mc, hsm⟩ : ∃ ma mc, svm = .slice ma (decS x).marks.length mc := by
                obtain ⟨a, c, e, -⟩ := MKP.out
                exact ⟨a, c, e⟩
              subst hsm
              refine oneH 13 (by kernel_rfl) rfl rfl fun K hK => ?_
              refine wp_store_all 63 _ _ rfl t2 #[.int .u32 (decS x).seq, .bool (decS x).more, .slice ma (decS x).marks.length mc, .int .i64 (sdecE x)] rfl rfl _ T2P.out rfl info63 (four_onem _ _ _ _ _ _) ?_
              intro wR hT hO
              have hbf := hO.below HSP.out.size (fun k hk => by have := T2B_12.out; omega)
              have HSR := Lib.hid (HSP.out.trans hbf)
              have BYR := Lib.hid (BYP.out.away hO A2_12.out)
              have MKR := Lib.hid (MKP.out.only0 hO T2P.out zeroed63 (decS_marks x))
              have T1R := Lib.hid (T1P.out.only hO (NE_14.out.symm))
              refine hK _ _ HSR.out ?_
              clear hK K hbf
              try simp only [Act.put, List.setIfInBounds_toArray, List.set_cons_succ, List.set_cons_zero]
              refine wpAnyH_done (by kernel_rfl) ?_ _
              go_wp2_with fail
              go_meet
              exact ⟨t1, t2, svb, ma, mc, rfl, rfl, HSR.out, T1B_14.out, T2B_12.out, T1R.out, hT, BYR.out, MKR.out, NE_14.out.symm⟩
            · refine wp_runTo (some 21) rfl _ _ (exec_alloc _ _ _ 59 rfl _ zero59b) ?_
              have hb := alloc_bel w22_12 (.cells (gotA Bk.none nilv 0 0) 59)
              have NT1_15 := Lib.hid (Blk.new w22_12 (gotA Bk.none nilv 0 0) 59)
              have HS22_15 := Lib.hid (stay HS22_12.out hb)
              have T1B_15 := Lib.hid HS22_12.out.size
              have A1_15 := Lib.hid (away_new BY_12.out)
              have NE_15 := Lib.hid (Nat.ne_of_lt NT2_12.out.lt)
              have BY_15 := Lib.hid (BY_12.out.below hb)
              have T2_15 := Lib.hid (NT2_12.out.below hb NT2_12.out.lt)
              refine hK _ _ HS22_15.out ?_
              clear hK K hb
              try simp only [Act.put, List.setIfInBounds_toArray, List.set_cons_succ, List.set_cons_zero]
              generalize w22_12.alloc (.cells (gotA Bk.none nilv 0 0) 59) = w22_15 at *
              generalize w22_12.heap.size = t1 at *
              refine oneH 9 (by kernel_rfl) rfl rfl fun K hK => ?_
              go_simp
              refine (HD2.out w22_15).mono ?_
              rintro e w22_16 ⟨svm, rfl, hmk, hb⟩
              have HS22_16 := Lib.hid (stay HS22_15.out hb)
              have BY_16 := Lib.hid (BY_15.out.below hb)
              have T1_16 := Lib.hid (NT1_15.out.below hb NT1_15.out.lt)
              have T2_16 := Lib.hid (T2_15.out.below hb T2_15.out.lt)
              have MK_16 := Lib.hid hmk
              refine hK _ _ HS22_16.out ?_
              clear hK K hmk hb
              try simp only [Act.put, List.setIfInBounds_toArray, List.set_cons_succ, List.set_cons_zero]
              refine oneH 12 (by kernel_rfl) rfl rfl fun K hK => ?_
              refine wp_store_all 59 _ _ rfl t1 (gotA (decB x) svb (decN x) (decE x)) rfl rfl _ T1_16.out (by rw [gotA_size HDW.out, Array.length_toList]; exact gotA_size none_wf _ _ _) (by rw [gotA_size HDW.out]; exact info59) (gotA_one _ BY_16.out _ _) ?_
              intro wP hT hO
              have hbf := hO.below HS22_16.out.size (fun k hk => by have := T1B_15.out; omega)
              have HSP := Lib.hid (HS22_16.out.trans hbf)
              have BYP := Lib.hid (BY_16.out.away hO A1_15.out)
              have MKP := Lib.hid (MK_16.out.only0 hO T1_16.out zeroed59 (decS_marks x))
              have T2P := Lib.hid (T2_16.out.only hO (fun e => NE_15.out.symm e.symm))
              have T1P := Lib.hid hT
              refine hK _ _ HSP.out ?_
              clear hK K hT hO hbf
              try simp only [Act.put, List.setIfInBounds_toArray, List.set_cons_succ, List.set_cons_zero]
              obtain ⟨ma, mc, hsm⟩ : ∃ ma mc, svm = .slice ma (decS x).marks.length mc := by
                obtain ⟨a, c, e, -⟩ := MKP.out
                exact ⟨a, c, e⟩
              subst hsm
              refine oneH 13 (by kernel_rfl) rfl rfl fun K hK => ?_
              refine wp_store_all 63 _ _ rfl t2 #[.int .u32 (decS x).seq, .bool (decS x).more, .slice ma (decS x).marks.length mc, .int .i64 (sdecE x)] rfl rfl _ T2P.out rfl info63 (four_onem _ _ _ _ _ _) ?_
              intro wR hT hO
              have hbf := hO.below HSP.out.size (fun k hk => by have := T2B_12.out; omega)
              have HSR := Lib.hid (HSP.out.trans hbf)
              have BYR := Lib.hid (BYP.out.away hO A2_12.out)
              have MKR := Lib.hid (MKP.out.only0 hO T2P.out zeroed63 (decS_marks x))
              have T1R := Lib.hid (T1P.out.only hO (NE_15.out.symm))
              refine hK _ _ HSR.out ?_
              clear hK K hbf
              try simp only [Act.put, List.setIfInBounds_toArray, List.set_cons_succ, List.set_cons_zero]
              refine wpAnyH_done (by kernel_rfl) ?_ _
              go_wp2_with fail
              go_meet
              exact ⟨t1, t2, svb, ma, mc, rfl, rfl, HSR.out, T1B_15.out, T2B_12.out, T1R.out, hT, BYR.out, MKR.out, NE_15.out.symm⟩
        · refine wp_runTo (some 21) rfl _ _ (exec_alloc _ _ _ 59 rfl _ zero59b) ?_
          have hb := alloc_bel wS (.cells (gotA Bk.none nilv 0 0) 59)
          have NT1_17 := Lib.hid (Blk.new wS (gotA Bk.none nilv 0 0) 59)
          have HS22_17 := Lib.hid (stay HSX.out hb)
          have T1B_17 := Lib.hid HSX.out.size
          refine hK _ _ HS22_17.out ?_
          clear hK K hb
          try simp only [Act.put, List.setIfInBounds_toArray, List.set_cons_succ, List.set_cons_zero]
          generalize wS.alloc (.cells (gotA Bk.none nilv 0 0) 59) = w22_17 at *
          generalize wS.heap.size = t1 at *
          refine twoH 4 11 (by kernel_rfl) rfl rfl rfl rfl (fun K hK => ?_) (fun K hK => ?_) 
          · go_simp
            refine (HD1.out w22_17).mono ?_
            rintro e w22_18 ⟨svb, rfl, hby, hb, hfr⟩
            have HS22_18 := Lib.hid (stay HS22_17.out hb)
            have A1_18 := Lib.hid (away_old (l := (decB x).bytes) hfr NT1_17.out.lt)
            have T1_18 := Lib.hid (NT1_17.out.below hb NT1_17.out.lt)
            have BY_18 := Lib.hid hby
            refine hK _ _ HS22_18.out ?_
            clear hK K hby hb hfr
            try simp only [Act.put, List.setIfInBounds_toArray, List.set_cons_succ, List.set_cons_zero]
            refine twoH 9 11 (by kernel_rfl) rfl rfl rfl rfl (fun K hK => ?_) (fun K hK => ?_) 
            · go_simp
              refine (HD2.out w22_18).mono ?_
              rintro e w22_19 ⟨svm, rfl, hmk, hb⟩
              have HS22_19 := Lib.hid (stay HS22_18.out hb)
              have BY_19 := Lib.hid (BY_18.out.below hb)
              have T1_19 := Lib.hid (T1_18.out.below hb T1_18.out.lt)
              have MK_19 := Lib.hid hmk
              refine hK _ _ HS22_19.out ?_
              clear hK K hmk hb
              try simp only [Act.put, List.setIfInBounds_toArray, List.set_cons_succ, List.set_cons_zero]
              refine oneH 11 (by kernel_rfl) rfl rfl fun K hK => ?_
              refine wp_runTo (some 22) rfl _ _ (exec_alloc _ _ _ 63 rfl _ zero63) ?_
              have hb := alloc_bel w22_19 (.cells #[.int .u32 0, .bool false, .slice none 0 0, .int .i64 0] 63)
              have NT2_20 := Lib.hid (Blk.new w22_19 #[.int .u32 0, .bool false, .slice none 0 0, .int .i64 0] 63)
              have HS22_20 := Lib.hid (stay HS22_19.out hb)
              have T2B_20 := Lib.hid HS22_19.out.size
              have A2_20 := Lib.hid (away_new BY_19.out)
              have NE_20 := Lib.hid (Nat.ne_of_lt T1_19.out.lt)
              have BY_20 := Lib.hid (BY_19.out.below hb)
              have MK_20 := Lib.hid (MK_19.out.below hb)
              have T1_20 := Lib.hid (T1_19.out.below hb T1_19.out.lt)
              refine hK _ _ HS22_20.out ?_
              clear hK K hb
              try simp only [Act.put, List.setIfInBounds_toArray, List.set_cons_succ, List.set_cons_zero]
              generalize w22_19.alloc (.cells #[.int .u32 0, .bool false, .slice none 0 0, .int .i64 0] 63) = w22_20 at *
              generalize w22_19.heap.size = t2 at *
              refine oneH 12 (by kernel_rfl) rfl rfl fun K hK => ?_
              refine wp_store_all 59 _ _ rfl t1 (gotA (decB x) svb (decN x) (decE x)) rfl rfl _ T1_20.out (by rw [gotA_size HDW.out, Array.length_toList]; exact gotA_size none_wf _ _ _) (by rw [gotA_size HDW.out]; exact info59) (gotA_one _ BY_20.out _ _) ?_
              intro wP hT hO
              have hbf := hO.below HS22_20.out.size (fun k hk => by have := T1B_17.out; omega)
              have HSP := Lib.hid (HS22_20.out.trans hbf)
              have BYP := Lib.hid (BY_20.out.away hO A1_18.out)
              have MKP := Lib.hid (MK_20.out.only0 hO T1_20.out zeroed59 (decS_marks x))
              have T2P := Lib.hid (NT2_20.out.only hO (fun e => NE_20.out e.symm))
              have T1P := Lib.hid hT
              refine hK _ _ HSP.out ?_
              clear hK K hT hO hbf
              try simp only [Act.put, List.setIfInBounds_toArray, List.set_cons_succ, List.set_cons_zero]
              obtain ⟨ma, mc, hsm⟩ : ∃ ma mc, svm = .slice ma (decS x).marks.length mc := by
                obtain ⟨a, c, e, -⟩ := MKP.out
                exact ⟨a, c, e⟩
              subst hsm
              refine oneH 13 (by kernel_rfl) rfl rfl fun K hK => ?_
              refine wp_store_all 63 _ _ rfl t2 #[.int .u32 (decS x).seq, .bool (decS x).more, .slice ma (decS x).marks.length mc, .int .i64 (sdecE x)] rfl rfl _ T2P.out rfl info63 (four_onem _ _ _ _ _ _) ?_
              intro wR hT hO
              have hbf := hO.below HSP.out.size (fun k hk => by have := T2B_20.out; omega)
              have HSR := Lib.hid (HSP.out.trans hbf)
              have BYR := Lib.hid (BYP.out.away hO A2_20.out)
              have MKR := Lib.hid (MKP.out.only0 hO T2P.out zeroed63 (decS_marks x))
              have T1R := Lib.hid (T1P.out.only hO (NE_20.out))
              refine hK _ _ HSR.out ?_
              clear hK K hbf
              try simp only [Act.put, List.setIfInBounds_toArray, List.set_cons_succ, List.set_cons_zero]
              refine wpAnyH_done (by kernel_rfl) ?_ _
              go_wp2_with fail
              go_meet
              exact ⟨t1, t2, svb, ma, mc, rfl, rfl, HSR.out, T1B_17.out, T2B_20.out, T1R.out, hT, BYR.out, MKR.out, NE_20.out⟩
            · refine wp_runTo (some 22) rfl _ _ (exec_alloc _ _ _ 63 rfl _ zero63) ?_
              have hb := alloc_bel w22_18 (.cells #[.int .u32 0, .bool false, .slice none 0 0, .int .i64 0] 63)
              have NT2_21 := Lib.hid (Blk.new w22_18 #[.int .u32 0, .bool false, .slice none 0 0, .int .i64 0] 63)
              have HS22_21 := Lib.hid (stay HS22_18.out hb)
              have T2B_21 := Lib.hid HS22_18.out.size
              have A2_21 := Lib.hid (away_new BY_18.out)
              have NE_21 := Lib.hid (Nat.ne_of_lt T1_18.out.lt)
              have BY_21 := Lib.hid (BY_18.out.below hb)
              have T1_21 := Lib.hid (T1_18.out.below hb T1_18.out.lt)
              refine hK _ _ HS22_21.out ?_
              clear hK K hb
              try simp only [Act.put, List.setIfInBounds_toArray, List.set_cons_succ, List.set_cons_zero]
              generalize w22_18.alloc (.cells #[.int .u32 0, .bool false, .slice none 0 0, .int .i64 0] 63) = w22_21 at *
              generalize w22_18.heap.size = t2 at *
              refine oneH 9 (by kernel_rfl) rfl rfl fun K hK => ?_
              go_simp
              refine (HD2.out w22_21).mono ?_
              rintro e w22_22 ⟨svm, rfl, hmk, hb⟩
              have HS22_22 := Lib.hid (stay HS22_21.out hb)
              have BY_22 := Lib.hid (BY_21.out.below hb)
              have T1_22 := Lib.hid (T1_21.out.below hb T1_21.out.lt)
              have T2_22 := Lib.hid (NT2_21.out.below hb NT2_21.out.lt)
              have MK_22 := Lib.hid hmk
              refine hK _ _ HS22_22.out ?_
              clear hK K hmk hb
              try simp only [Act.put, List.setIfInBounds_toArray, List.set_cons_succ, List.set_cons_zero]
              refine oneH 12 (by kernel_rfl) rfl rfl fun K hK => ?_
              refine wp_store_all 59 _ _ rfl t1 (gotA (decB x) svb (decN x) (decE x)) rfl rfl _ T1_22.out (by rw [gotA_size HDW.out, Array.length_toList]; exact gotA_size none_wf _ _ _) (by rw [gotA_size HDW.out]; exact info59) (gotA_one _ BY_22.out _ _) ?_
              intro wP hT hO
              have hbf := hO.below HS22_22.out.size (fun k hk => by have := T1B_17.out; omega)
              have HSP := Lib.hid (HS22_22.out.trans hbf)
              have BYP := Lib.hid (BY_22.out.away hO A1_18.out)
              have MKP := Lib.hid (MK_22.out.only0 hO T1_22.out zeroed59 (decS_marks x))
              have T2P := Lib.hid (T2_22.out.only hO (fun e => NE_21.out e.symm))
              have T1P := Lib.hid hT
              refine hK _ _ HSP.out ?_
              clear hK K hT hO hbf
              try simp only [Act.put, List.setIfInBounds_toArray, List.set_cons_succ, List.set_cons_zero]
              obtain ⟨ma, mc, hsm⟩ : ∃ ma mc, svm = .slice ma (decS x).marks.length mc := by
                obtain ⟨a, c, e, -⟩ := MKP.out
                exact ⟨a, c, e⟩
              subst hsm
              refine oneH 13 (by kernel_rfl) rfl rfl fun K hK => ?_
              refine wp_store_all 63 _ _ rfl t2 #[.int .u32 (decS x).seq, .bool (decS x).more, .slice ma (decS x).marks.length mc, .int .i64 (sdecE x)] rfl rfl _ T2P.out rfl info63 (four_onem _ _ _ _ _ _) ?_
              intro wR hT hO
              have hbf := hO.below HSP.out.size (fun k hk => by have := T2B_21.out; omega)
              have HSR := Lib.hid (HSP.out.trans hbf)
              have BYR := Lib.hid (BYP.out.away hO A2_21.out)
              have MKR := Lib.hid (MKP.out.only0 hO T2P.out zeroed63 (decS_marks x))
              have T1R := Lib.hid (T1P.out.only hO (NE_21.out))
              refine hK _ _ HSR.out ?_
              clear hK K hbf
              try simp only [Act.put, List.setIfInBounds_toArray, List.set_cons_succ, List.set_cons_zero]
              refine wpAnyH_done (by kernel_rfl) ?_ _
              go_wp2_with fail
              go_meet
              exact ⟨t1, t2, svb, ma, mc, rfl, rfl, HSR.out, T1B_17.out, T2B_21.out, T1R.out, hT, BYR.out, MKR.out, NE_21.out⟩
          · refine wp_runTo (some 22) rfl _ _ (exec_alloc _ _ _ 63 rfl _ zero63) ?_
            have hb := alloc_bel w22_17 (.cells #[.int .u32 0, .bool false, .slice none 0 0, .int .i64 0] 63)
            have NT2_23 := Lib.hid (Blk.new w22_17 #[.int .u32 0, .bool false, .slice none 0 0, .int .i64 0] 63)
            have HS22_23 := Lib.hid (stay HS22_17.out hb)
            have T2B_23 := Lib.hid HS22_17.out.size
            have NE_23 := Lib.hid (Nat.ne_of_lt NT1_17.out.lt)
            have T1_23 := Lib.hid (NT1_17.out.below hb NT1_17.out.lt)
            refine hK _ _ HS22_23.out ?_
            clear hK K hb
            try simp only [Act.put, List.setIfInBounds_toArray, List.set_cons_succ, List.set_cons_zero]
            generalize w22_17.alloc (.cells #[.int .u32 0, .bool false, .slice none 0 0, .int .i64 0] 63) = w22_23 at *
            generalize w22_17.heap.size = t2 at *
            refine oneH 4 (by kernel_rfl) rfl rfl fun K hK => ?_
            go_simp
            refine (HD1.out w22_23).mono ?_
            rintro e w22_24 ⟨svb, rfl, hby, hb, hfr⟩
            have HS22_24 := Lib.hid (stay HS22_23.out hb)
            have A1_24 := Lib.hid (away_old (l := (decB x).bytes) hfr T1_23.out.lt)
            have A2_24 := Lib.hid (away_old (l := (decB x).bytes) hfr NT2_23.out.lt)
            have T1_24 := Lib.hid (T1_23.out.below hb T1_23.out.lt)
            have T2_24 := Lib.hid (NT2_23.out.below hb NT2_23.out.lt)
            have BY_24 := Lib.hid hby
            refine hK _ _ HS22_24.out ?_
            clear hK K hby hb hfr
            try simp only [Act.put, List.setIfInBounds_toArray, List.set_cons_succ, List.set_cons_zero]
            refine oneH 9 (by kernel_rfl) rfl rfl fun K hK => ?_
            go_simp
            refine (HD2.out w22_24).mono ?_
            rintro e w22_25 ⟨svm, rfl, hmk, hb⟩
            have HS22_25 := Lib.hid (stay HS22_24.out hb)
            have BY_25 := Lib.hid (BY_24.out.below hb)
            have T1_25 := Lib.hid (T1_24.out.below hb T1_24.out.lt)
            have T2_25 := Lib.hid (T2_24.out.below hb T2_24.out.lt)
            have MK_25 := Lib.hid hmk
            refine hK _ _ HS22_25.out ?_
            clear hK K hmk hb
            try simp only [Act.put, List.setIfInBounds_toArray, List.set_cons_succ, List.set_cons_zero]
            refine oneH 12 (by kernel_rfl) rfl rfl fun K hK => ?_
            refine wp_store_all 59 _ _ rfl t1 (gotA (decB x) svb (decN x) (decE x)) rfl rfl _ T1_25.out (by rw [gotA_size HDW.out, Array.length_toList]; exact gotA_size none_wf _ _ _) (by rw [gotA_size HDW.out]; exact info59) (gotA_one _ BY_25.out _ _) ?_
            intro wP hT hO
            have hbf := hO.below HS22_25.out.size (fun k hk => by have := T1B_17.out; omega)
            have HSP := Lib.hid (HS22_25.out.trans hbf)
            have BYP := Lib.hid (BY_25.out.away hO A1_24.out)
            have MKP := Lib.hid (MK_25.out.only0 hO T1_25.out zeroed59 (decS_marks x))
            have T2P := Lib.hid (T2_25.out.only hO (fun e => NE_23.out e.symm))
            have T1P := Lib.hid hT
            refine hK _ _ HSP.out ?_
            clear hK K hT hO hbf
            try simp only [Act.put, List.setIfInBounds_toArray, List.set_cons_succ, List.set_cons_zero]
            obtain ⟨ma, mc, hsm⟩ : ∃ ma mc, svm = .slice ma (decS x).marks.length mc := by
              obtain ⟨a, c, e, -⟩ := MKP.out
              exact ⟨a, c, e⟩
            subst hsm
            refine oneH 13 (by kernel_rfl) rfl rfl fun K hK => ?_
            refine wp_store_all 63 _ _ rfl t2 #[.int .u32 (decS x).seq, .bool (decS x).more, .slice ma (decS x).marks.length mc, .int .i64 (sdecE x)] rfl rfl _ T2P.out rfl info63 (four_onem _ _ _ _ _ _) ?_
            intro wR hT hO
            have hbf := hO.below HSP.out.size (fun k hk => by have := T2B_23.out; omega)
            have HSR := Lib.hid (HSP.out.trans hbf)
            have BYR := Lib.hid (BYP.out.away hO A2_24.out)
            have MKR := Lib.hid (MKP.out.only0 hO T2P.out zeroed63 (decS_marks x))
            have T1R := Lib.hid (T1P.out.only hO (NE_23.out))
            refine hK _ _ HSR.out ?_
            clear hK K hbf
            try simp only [Act.put, List.setIfInBounds_toArray, List.set_cons_succ, List.set_cons_zero]
            refine wpAnyH_done (by kernel_rfl) ?_ _
            go_wp2_with fail
            go_meet
            exact ⟨t1, t2, svb, ma, mc, rfl, rfl, HSR.out, T1B_17.out, T2B_23.out, T1R.out, hT, BYR.out, MKR.out, NE_23.out⟩
        · refine wp_runTo (some 22) rfl _ _ (exec_alloc _ _ _ 63 rfl _ zero63) ?_
          have hb := alloc_bel wS (.cells #[.int .u32 0, .bool false, .slice none 0 0, .int .i64 0] 63)
          have NT2_26 := Lib.hid (Blk.new wS #[.int .u32 0, .bool false, .slice none 0 0, .int .i64 0] 63)
          have HS22_26 := Lib.hid (stay HSX.out hb)
          have T2B_26 := Lib.hid HSX.out.size
          refine hK _ _ HS22_26.out ?_
          clear hK K hb
          try simp only [Act.put, List.setIfInBounds_toArray, List.set_cons_succ, List.set_cons_zero]
          generalize wS.alloc (.cells #[.int .u32 0, .bool false, .slice none 0 0, .int .i64 0] 63) = w22_26 at *
          generalize wS.heap.size = t2 at *
          refine twoH 4 10 (by kernel_rfl) rfl rfl rfl rfl (fun K hK => ?_) (fun K hK => ?_) 
          · go_simp
            refine (HD1.out w22_26).mono ?_
            rintro e w22_27 ⟨svb, rfl, hby, hb, hfr⟩
            have HS22_27 := Lib.hid (stay HS22_26.out hb)
            have A2_27 := Lib.hid (away_old (l := (decB x).bytes) hfr NT2_26.out.lt)
            have T2_27 := Lib.hid (NT2_26.out.below hb NT2_26.out.lt)
            have BY_27 := Lib.hid hby
            refine hK _ _ HS22_27.out ?_
            clear hK K hby hb hfr
            try simp only [Act.put, List.setIfInBounds_toArray, List.set_cons_succ, List.set_cons_zero]
            refine twoH 9 10 (by kernel_rfl) rfl rfl rfl rfl (fun K hK => ?_) (fun K hK => ?_) 
            · go_simp
              refine (HD2.out w22_27).mono ?_
              rintro e w22_28 ⟨svm, rfl, hmk, hb⟩
              have HS22_28 := Lib.hid (stay HS22_27.out hb)
              have BY_28 := Lib.hid (BY_27.out.below hb)
              have T2_28 := Lib.hid (T2_27.out.below hb T2_27.out.lt)
              have MK_28 := Lib.hid hmk
              refine hK _ _ HS22_28.out ?_
              clear hK K hmk hb
              try simp only [Act.put, List.setIfInBounds_toArray, List.set_cons_succ, List.set_cons_zero]
              refine oneH 10 (by kernel_rfl) rfl rfl fun K hK => ?_
              refine wp_runTo (some 21) rfl _ _ (exec_alloc _ _ _ 59 rfl _ zero59b) ?_
              have hb := alloc_bel w22_28 (.cells (gotA Bk.none nilv 0 0) 59)
              have NT1_29 := Lib.hid (Blk.new w22_28 (gotA Bk.none nilv 0 0) 59)
              have HS22_29 := Lib.hid (stay HS22_28.out hb)
              have T1B_29 := Lib.hid HS22_28.out.size
              have A1_29 := Lib.hid (away_new BY_28.out)
              have NE_29 := Lib.hid (Nat.ne_of_lt T2_28.out.lt)
              have BY_29 := Lib.hid (BY_28.out.below hb)
              have MK_29 := Lib.hid (MK_28.out.below hb)
              have T2_29 := Lib.hid (T2_28.out.below hb T2_28.out.lt)
              refine hK _ _ HS22_29.out ?_
              clear hK K hb
              try simp only [Act.put, List.setIfInBounds_toArray, List.set_cons_succ, List.set_cons_zero]
              generalize w22_28.alloc (.cells (gotA Bk.none nilv 0 0) 59) = w22_29 at *
              generalize w22_28.heap.size = t1 at *
              refine oneH 12 (by kernel_rfl) rfl rfl fun K hK => ?_
              refine wp_store_all 59 _ _ rfl t1 (gotA (decB x) svb (decN x) (decE x)) rfl rfl _ NT1_29.out (by rw [gotA_size HDW.out, Array.length_toList]; exact gotA_size none_wf _ _ _) (by rw [gotA_size HDW.out]; exact info59) (gotA_one _ BY_29.out _ _) ?_
              intro wP hT hO
              have hbf := hO.below HS22_29.out.size (fun k hk => by have := T1B_29.out; omega)
              have HSP := Lib.hid (HS22_29.out.trans hbf)
              have BYP := Lib.hid (BY_29.out.away hO A1_29.out)
              have MKP := Lib.hid (MK_29.out.only0 hO NT1_29.out zeroed59 (decS_marks x))
              have T2P := Lib.hid (T2_29.out.only hO (fun e => NE_29.out.symm e.symm))
              have T1P := Lib.hid hT
              refine hK _ _ HSP.out ?_
              clear hK K hT hO hbf
              try simp only [Act.put, List.setIfInBounds_toArray, List.set_cons_succ, List.set_cons_zero]
              obtain ⟨ma, mc, hsm⟩ : ∃ ma mc, svm = .slice ma (decS x).marks.length mc := by
                obtain ⟨a, c, e, -⟩ := MKP.out
                exact ⟨a, c, e⟩
              subst hsm
              refine oneH 13 (by kernel_rfl) rfl rfl fun K hK => ?_
              refine wp_store_all 63 _ _ rfl t2 #[.int .u32 (decS x).seq, .bool (decS x).more, .slice ma (decS x).marks.length mc, .int .i64 (sdecE x)] rfl rfl _ T2P.out rfl info63 (four_onem _ _ _ _ _ _) ?_
              intro wR hT hO
              have hbf := hO.below HSP.out.size (fun k hk => by have := T2B_26.out; omega)
              have HSR := Lib.hid (HSP.out.trans hbf)
              have BYR := Lib.hid (BYP.out.away hO A2_27.out)
              have MKR := Lib.hid (MKP.out.only0 hO T2P.out zeroed63 (decS_marks x))
              have T1R := Lib.hid (T1P.out.only hO (NE_29.out.symm))
              refine hK _ _ HSR.out ?_
              clear hK K hbf
              try simp only [Act.put, List.setIfInBounds_toArray, List.set_cons_succ, List.set_cons_zero]
              refine wpAnyH_done (by kernel_rfl) ?_ _
              go_wp2_with fail
              go_meet
              exact ⟨t1, t2, svb, ma, mc, rfl, rfl, HSR.out, T1B_29.out, T2B_26.out, T1R.out, hT, BYR.out, MKR.out, NE_29.out.symm⟩
            · refine wp_runTo (some 21) rfl _ _ (exec_alloc _ _ _ 59 rfl _ zero59b) ?_
              have hb := alloc_bel w22_27 (.cells (gotA Bk.none nilv 0 0) 59)
              have NT1_30 := Lib.hid (Blk.new w22_27 (gotA Bk.none nilv 0 0) 59)
              have HS22_30 := Lib.hid (stay HS22_27.out hb)
              have T1B_30 := Lib.hid HS22_27.out.size
              have A1_30 := Lib.hid (away_new BY_27.out)
              have NE_30 := Lib.hid (Nat.ne_of_lt T2_27.out.lt)
              have BY_30 := Lib.hid (BY_27.out.below hb)
              have T2_30 := Lib.hid (T2_27.out.below hb T2_27.out.lt)
              refine hK _ _ HS22_30.out ?_
              clear hK K hb
              try simp only [Act.put, List.setIfInBounds_toArray, List.set_cons_succ, List.set_cons_zero]
              generalize w22_27.alloc (.cells (gotA Bk.none nilv 0 0) 59) = w22_30 at *
              generalize w22_27.heap.size = t1 at *
              refine oneH 9 (by kernel_rfl) rfl rfl fun K hK => ?_
              go_simp
              refine (HD2.out w22_30).mono ?_
              rintro e w22_31 ⟨svm, rfl, hmk, hb⟩
              have HS22_31 := Lib.hid (stay HS22_30.out hb)
              have BY_31 := Lib.hid (BY_30.out.below hb)
              have T1_31 := Lib.hid (NT1_30.out.below hb NT1_30.out.lt)
              have T2_31 := Lib.hid (T2_30.out.below hb T2_30.out.lt)
              have MK_31 := Lib.hid hmk
              refine hK _ _ HS22_31.out ?_
              clear hK K hmk hb
              try simp only [Act.put, List.setIfInBounds_toArray, List.set_cons_succ, List.set_cons_zero]
              refine oneH 12 (by kernel_rfl) rfl rfl fun K hK => ?_
              refine wp_store_all 59 _ _ rfl t1 (gotA (decB x) svb (decN x) (decE x)) rfl rfl _ T1_31.out (by rw [gotA_size HDW.out, Array.length_toList]; exact gotA_size none_wf _ _ _) (by rw [gotA_size HDW.out]; exact info59) (gotA_one _ BY_31.out _ _) ?_
              intro wP hT hO
              have hbf := hO.below HS22_31.out.size (fun k hk => by have := T1B_30.out; omega)
              have HSP := Lib.hid (HS22_31.out.trans hbf)
              have BYP := Lib.hid (BY_31.out.away hO A1_30.out)
              have MKP := Lib.hid (MK_31.out.only0 hO T1_31.out zeroed59 (decS_marks x))
              have T2P := Lib.hid (T2_31.out.only hO (fun e => NE_30.out.symm e.symm))
              have T1P := Lib.hid hT
              refine hK _ _ HSP.out ?_
              clear hK K hT hO hbf
              try simp only [Act.put, List.setIfInBounds_toArray, List.set_cons_succ, List.set_cons_zero]
              obtain ⟨ma, mc, hsm⟩ : ∃ ma mc, svm = .slice ma (decS x).marks.length mc := by
                obtain ⟨a, c, e, -⟩ := MKP.out
                exact ⟨a, c, e⟩
              subst hsm
              refine oneH 13 (by kernel_rfl) rfl rfl fun K hK => ?_
              refine wp_store_all 63 _ _ rfl t2 #[.int .u32 (decS x).seq, .bool (decS x).more, .slice ma (decS x).marks.length mc, .int .i64 (sdecE x)] rfl rfl _ T2P.out rfl info63 (four_onem _ _ _ _ _ _) ?_
              intro wR hT hO
              have hbf := hO.below HSP.out.size (fun k hk => by have := T2B_26.out; omega)
              have HSR := Lib.hid (HSP.out.trans hbf)
              have BYR := Lib.hid (BYP.out.away hO A2_27.out)
              have MKR := Lib.hid (MKP.out.only0 hO T2P.out zeroed63 (decS_marks x))
              have T1R := Lib.hid (T1P.out.only hO (NE_30.out.symm))
              refine hK _ _ HSR.out ?_
              clear hK K hbf
              try simp only [Act.put, List.setIfInBounds_toArray, List.set_cons_succ, List.set_cons_zero]
              refine wpAnyH_done (by kernel_rfl) ?_ _
              go_wp2_with fail
              go_meet
              exact ⟨t1, t2, svb, ma, mc, rfl, rfl, HSR.out, T1B_30.out, T2B_26.out, T1R.out, hT, BYR.out, MKR.out, NE_30.out.symm⟩
          · refine wp_runTo (some 21) rfl _ _ (exec_alloc _ _ _ 59 rfl _ zero59b) ?_
            have hb := alloc_bel w22_26 (.cells (gotA Bk.none nilv 0 0) 59)
            have NT1_32 := Lib.hid (Blk.new w22_26 (gotA Bk.none nilv 0 0) 59)
            have HS22_32 := Lib.hid (stay HS22_26.out hb)
            have T1B_32 := Lib.hid HS22_26.out.size
            have NE_32 := Lib.hid (Nat.ne_of_lt NT2_26.out.lt)
            have T2_32 := Lib.hid (NT2_26.out.below hb NT2_26.out.lt)
            refine hK _ _ HS22_32.out ?_
            clear hK K hb
            try simp only [Act.put, List.setIfInBounds_toArray, List.set_cons_succ, List.set_cons_zero]
            generalize w22_26.alloc (.cells (gotA Bk.none nilv 0 0) 59) = w22_32 at *
            generalize w22_26.heap.size = t1 at *
            refine oneH 4 (by kernel_rfl) rfl rfl fun K hK => ?_
            go_simp
            refine (HD1.out w22_32).mono ?_
            rintro e w22_33 ⟨svb, rfl, hby, hb, hfr⟩
            have HS22_33 := Lib.hid (stay HS22_32.out hb)
            have A1_33 := Lib.hid (away_old (l := (decB x).bytes) hfr NT1_32.out.lt)
            have A2_33 := Lib.hid (away_old (l := (decB x).bytes) hfr T2_32.out.lt)
            have T1_33 := Lib.hid (NT1_32.out.below hb NT1_32.out.lt)
            have T2_33 := Lib.hid (T2_32.out.below hb T2_32.out.lt)
            have BY_33 := Lib.hid hby
            refine hK _ _ HS22_33.out ?_
            clear hK K hby hb hfr
            try simp only [Act.put, List.setIfInBounds_toArray, List.set_cons_succ, List.set_cons_zero]
            refine oneH 9 (by kernel_rfl) rfl rfl fun K hK => ?_
            go_simp
            refine (HD2.out w22_33).mono ?_
            rintro e w22_34 ⟨svm, rfl, hmk, hb⟩
            have HS22_34 := Lib.hid (stay HS22_33.out hb)
            have BY_34 := Lib.hid (BY_33.out.below hb)
            have T1_34 := Lib.hid (T1_33.out.below hb T1_33.out.lt)
            have T2_34 := Lib.hid (T2_33.out.below hb T2_33.out.lt)
            have MK_34 := Lib.hid hmk
            refine hK _ _ HS22_34.out ?_
            clear hK K hmk hb
            try simp only [Act.put, List.setIfInBounds_toArray, List.set_cons_succ, List.set_cons_zero]
            refine oneH 12 (by kernel_rfl) rfl rfl fun K hK => ?_
            refine wp_store_all 59 _ _ rfl t1 (gotA (decB x) svb (decN x) (decE x)) rfl rfl _ T1_34.out (by rw [gotA_size HDW.out, Array.length_toList]; exact gotA_size none_wf _ _ _) (by rw [gotA_size HDW.out]; exact info59) (gotA_one _ BY_34.out _ _) ?_
            intro wP hT hO
            have hbf := hO.below HS22_34.out.size (fun k hk => by have := T1B_32.out; omega)
            have HSP := Lib.hid (HS22_34.out.trans hbf)
            have BYP := Lib.hid (BY_34.out.away hO A1_33.out)
            have MKP := Lib.hid (MK_34.out.only0 hO T1_34.out zeroed59 (decS_marks x))
            have T2P := Lib.hid (T2_34.out.only hO (fun e => NE_32.out.symm e.symm))
            have T1P := Lib.hid hT
            refine hK _ _ HSP.out ?_
            clear hK K hT hO hbf
            try simp only [Act.put, List.setIfInBounds_toArray, List.set_cons_succ, List.set_cons_zero]
            obtain ⟨ma, mc, hsm⟩ : ∃ ma mc, svm = .slice ma (decS x).marks.length mc := by
              obtain ⟨a, c, e, -⟩ := MKP.out
              exact ⟨a, c, e⟩
            subst hsm
            refine oneH 13 (by kernel_rfl) rfl rfl fun K hK => ?_
            refine wp_store_all 63 _ _ rfl t2 #[.int .u32 (decS x).seq, .bool (decS x).more, .slice ma (decS x).marks.length mc, .int .i64 (sdecE x)] rfl rfl _ T2P.out rfl info63 (four_onem _ _ _ _ _ _) ?_
            intro wR hT hO
            have hbf := hO.below HSP.out.size (fun k hk => by have := T2B_26.out; omega)
            have HSR := Lib.hid (HSP.out.trans hbf)
            have BYR := Lib.hid (BYP.out.away hO A2_33.out)
            have MKR := Lib.hid (MKP.out.only0 hO T2P.out zeroed63 (decS_marks x))
            have T1R := Lib.hid (T1P.out.only hO (NE_32.out.symm))
            refine hK _ _ HSR.out ?_
            clear hK K hbf
            try simp only [Act.put, List.setIfInBounds_toArray, List.set_cons_succ, List.set_cons_zero]
            refine wpAnyH_done (by kernel_rfl) ?_ _
            go_wp2_with fail
            go_meet
            exact ⟨t1, t2, svb, ma, mc, rfl, rfl, HSR.out, T1B_32.out, T2B_26.out, T1R.out, hT, BYR.out, MKR.out, NE_32.out.symm⟩
      case rest =>
        obtain ⟨t1, t2, svb, ma, mc, rfl, rfl, htw⟩ := hcut
        have HTW := Lib.hid htw
        clear htw
        have HW5 := Lib.hid (stay HW4.out HTW.out.low)
        have HR5 := Lib.hid (HR4.out.below HTW.out.low)
        obtain ⟨j, -, hc2, hkd⟩ := lay2_kind HMA.out HAW.out n kk x HXX.out
        obtain ⟨p, hp⟩ : ∃ p, (n + (j : Int)) % M32 = p := ⟨_, rfl⟩
        rw [hp] at hkd
        have hsp : Seq32 p := by rw [← hp]; exact seq_mod _
        obtain ⟨q, hq⟩ : ∃ q, (p + (1 + c)) % M32 = q := ⟨_, rfl⟩
        have hsq : Seq32 q := by rw [← hq]; exact seq_mod _
        have gq : IntKind.u32.wrap (p + (1 + c)) = q := by rw [IntKind.wrap_u32, ← hq]; rfl
        have hne : q ≠ p := by
          have h1 := HCC.out.1
          have h2 := HCC.out.2
          have h3 := hsp.1
          have h4 := hsp.2
          simp only [M32] at h4 hq
          omega
        clear HD1 HD2
        cases hib : isBlock x
        · obtain ⟨ks, kq, kt⟩ := kindly_sum hsp hkd hib
          have e3 := (dec_no hib).2.2
          have e4 : decS x = sreadOf x := by unfold decS; rw [if_pos ks]
          have e5 : sdecE x = 0 := by unfold sdecE; rw [if_pos ks]
          have hwf := sreadOf_wf HXS.out
          obtain ⟨mo, hmo⟩ : ∃ mo, (sreadOf x).more = mo := ⟨_, rfl⟩
          obtain ⟨ml, hml⟩ : ∃ ml, (sreadOf x).marks = ml := ⟨_, rfl⟩
          have hb2 := HTW.out.b2
          have hmk := HTW.out.mks
          rw [e4] at hb2 hmk
          rw [e5, kq, hmo, hml] at hb2
          rw [hml] at hmk
          have hws : Sm.Wf ⟨q, mo, ml⟩ := ⟨hsq, by rw [← hml]; exact hwf.2⟩
          obtain ⟨-, -, z46⟩ := got_at HTW.out.b1 HDW.out
          rw [e3] at z46
          have d3 : wc.cell? ⟨t2, 3, none⟩ = some (.int .i64 0) := hb2.cell rfl
          have d0 : wc.cell? ⟨t2, 0, none⟩ = some (.int .u32 p) := hb2.cell rfl
          have zf := hb2.frozen 0
          have HEN := Lib.hid fun w h => srencode_any ⟨q, mo, ml⟩ (.slice ma ml.length mc) 0 hws w h
          have HRN := Lib.hid fun w sv h => readG_any n HSN.out ((lay2 n A).1.set kk (Sm.sec ⟨q, mo, ml⟩)) T (by rw [List.length_set, HT.out]) (by omega) sv w h
          have ktq := kt q
          rw [hmo, hml] at ktq
          rw [back_num HMA.out HAW.out HXX.out (sec_sc _) hc2 hsq (by rw [hp]; exact ktq) (by rw [hp]; exact hne)] at HRN
          have HBB2 := Lib.hid hb2
          have HMK := Lib.hid hmk
          have ho : Hid (Only (fun k => k = t2) wc (wc.setCell ⟨t2, 0, none⟩ (.int .u32 q))) := Lib.hid ((Only.refl (fun k => k = t2) wc).setCell (p := ⟨t2, 0, none⟩) (.inl rfl) _)
          have HB3 : Hid (Blk (wc.setCell ⟨t2, 0, none⟩ (.int .u32 q)) t2 [.int .u32 q, .bool mo, .slice ma ml.length mc, .int .i64 0]) := Lib.hid (hb2.set 0 (.int .u32 q))
          have HMK2 := Lib.hid (hmk.only ho.out hb2 (noMark4 _ _ _ _ _ _))
          have HW6 := Lib.hid (HW5.out.trans (ho.out.below HW5.out.size fun k hk => by have h1 := HTW.out.g2; have h2 := HW4.out.size; omega))
          have HR6 := Lib.hid (HR5.out.low (B := w24.heap.size) (ho.out.below HTW.out.low.size fun k hk => by have h1 := HTW.out.g2; omega) HR4.out.lt)
          clear hp hq hsp hsq hne hib ks kq kt e3 e4 e5 hwf hmo hml hb2 hmk hws ktq hkd hc2
          go_upto_region 27 with fail
          generalize wc.setCell ⟨t2, 0, none⟩ (.int .u32 q) = wd at *
          refine wp_region_lit ?_
          refine takeL (.slice (some ⟨g17, 0, none⟩) T cap17) rfl (by go_simp) ?_
          try simp only [Act.put, List.setIfInBounds_toArray, List.set_cons_succ, List.set_cons_zero]
          refine takeL (.int .i64 kk) rfl (by go_simp) ?_
          try simp only [Act.put, List.setIfInBounds_toArray, List.set_cons_succ, List.set_cons_zero]
          refine load63 (g := t2) (off := 0) (cs := #[.int .u32 q, .bool mo, .slice ma ml.length mc, .int .i64 0]) (HB3.out.all rfl) rfl rfl rfl ?_
          try simp only [Act.put, List.setIfInBounds_toArray, List.set_cons_succ, List.set_cons_zero]
          refine wpList_op rfl fun K hK => ?_
          go_simp
          refine (HEN.out _ HMK2.out).mono ?_
          rintro e w30 ⟨rfl, hb⟩
          have HW7 := Lib.hid (stay HW6.out hb)
          have HR7 := Lib.hid (HR6.out.below hb)
          clear hb HW6 HR6
          refine hK _ _ ?_
          clear hK K
          try simp only [Act.put, List.setIfInBounds_toArray, List.set_cons_succ, List.set_cons_zero]
          refine takeL (.tuple #[.agg (u8s (Sm.sec ⟨q, mo, ml⟩)).toArray, .int .i64 (Sm.err ⟨q, mo, ml⟩)]) rfl (by go_simp) ?_
          try simp only [Act.put, List.setIfInBounds_toArray, List.set_cons_succ, List.set_cons_zero]
          refine takeL (.agg (u8s (Sm.sec ⟨q, mo, ml⟩)).toArray) rfl (by go_simp) ?_
          try simp only [Act.put, List.setIfInBounds_toArray, List.set_cons_succ, List.set_cons_zero]
          refine takeL (.int .i64 (Sm.err ⟨q, mo, ml⟩)) rfl (by go_simp) ?_
          try simp only [Act.put, List.setIfInBounds_toArray, List.set_cons_succ, List.set_cons_zero]
          refine takeL (.pointer (some ⟨g17, kk * 64, none⟩)) rfl (by go_simp) ?_
          try simp only [Act.put, List.setIfInBounds_toArray, List.set_cons_succ, List.set_cons_zero]
          refine store_sec HR7.out hkT (sec_sc _) rfl rfl rfl ?_
          intro w31 hr hO hsz
          try simp only [Act.put, List.setIfInBounds_toArray, List.set_cons_succ, List.set_cons_zero]
          rw [List.set_set] at hr
          have HR8 := Lib.hid hr
          have HW8 := Lib.hid (HW7.out.trans (hO.below HW7.out.size fun k hk => by rw [hk]; exact HGE.out))
          clear hr hO hsz HW7 HR7
          refine wpList_nil ?_
          have c0 : w31.cell? ⟨w.heap.size, 0, none⟩ = some (.int .u32 n) := (HBS6.out.below HW8.out).p.cell rfl
          go_wp2_with fail
          refine (HRN.out _ _ HR8.out.secs).mono ?_
          rintro e w32 ⟨hro, hb⟩
          have he := hro.no
          subst he
          have HW9 := Lib.hid (stay HW8.out hb)
          clear hro hb c0 HR8 HW8 HRN
          go_wp2_with fail
          refine (HWK.out _).mono ?_
          rintro e w33 ⟨rfl, hb⟩
          have HW10 := Lib.hid (stay (stay HW9.out (alloc_bel w32 (.cells #[.slice none 0 0, .slice none 0 0, .int .i64 0, .int .i64 0] 36))) hb)
          clear hb
          go_wp2_with fail
          go_ret
          exact ⟨rfl, stay HBS6.out.l HW10.out⟩
        · obtain ⟨kg, kw, ks, kt⟩ := kindly_block hsp hkd hib
          obtain ⟨e1, e2, e3⟩ := dec_yes hib
          have hb1 := HTW.out.b1
          have hby := HTW.out.by1
          rw [e1] at hby hb1
          rw [e2, e3, ks] at hb1
          obtain ⟨hat, z45, z46⟩ := got_at hb1 kw
          have HAT := Lib.hid hat
          have HBY := Lib.hid hby
          have HEN := Lib.hid fun w h => rencode_any (readOf x) svb q w h kw hsq
          have HSS := Lib.hid (bsec_sc kw q)
          have HAZ := Lib.hid ((readOf x).arr_size kw svb)
          have HRN := Lib.hid fun w sv h => readG_any n HSN.out ((lay2 n A).1.set kk ((readOf x).sec q)) T (by rw [List.length_set, HT.out]) (by omega) sv w h
          rw [back_num HMA.out HAW.out HXX.out (bsec_sc kw q) hc2 hsq (by rw [hp]; exact kt q) (by rw [hp]; exact hne)] at HRN
          clear hp hq hsp hsq hne hib kg ks kt e1 e2 e3 hb1 hby hat hkd hc2
          generalize readOf x = bx at *
          go_upto_region 24 with fail
          refine wp_region_lit ?_
          refine takeL (.slice (some ⟨g17, 0, none⟩) T cap17) rfl (by go_simp) ?_
          try simp only [Act.put, List.setIfInBounds_toArray, List.set_cons_succ, List.set_cons_zero]
          refine takeL (.int .i64 kk) rfl (by go_simp) ?_
          try simp only [Act.put, List.setIfInBounds_toArray, List.set_cons_succ, List.set_cons_zero]
          refine takeL (.pointer (some ⟨t1, 0, none⟩)) rfl (by go_simp) ?_
          try simp only [Act.put, List.setIfInBounds_toArray, List.set_cons_succ, List.set_cons_zero]
          refine load57 (g := t1) (off := 0) (cs := bx.arr svb) HAT.out HAZ.out rfl rfl ?_
          try simp only [Act.put, List.setIfInBounds_toArray, List.set_cons_succ, List.set_cons_zero]
          refine takeL (.pointer (some ⟨t1, 45, none⟩)) rfl (by go_simp) ?_
          try simp only [Act.put, List.setIfInBounds_toArray, List.set_cons_succ, List.set_cons_zero]
          refine takeL (.int .u32 p) rfl (by go_simp) ?_
          try simp only [Act.put, List.setIfInBounds_toArray, List.set_cons_succ, List.set_cons_zero]
          refine takeL (.int .u32 (1 + c)) rfl (by go_simp) ?_
          try simp only [Act.put, List.setIfInBounds_toArray, List.set_cons_succ, List.set_cons_zero]
          refine takeL (.int .u32 q) rfl (by go_simp) ?_
          try simp only [Act.put, List.setIfInBounds_toArray, List.set_cons_succ, List.set_cons_zero]
          refine wpList_op rfl fun K hK => ?_
          go_simp
          refine (HEN.out _ HBY.out).mono ?_
          rintro e w30 ⟨rfl, hb⟩
          have HW7 := Lib.hid (stay HW5.out hb)
          have HR7 := Lib.hid (HR5.out.below hb)
          clear hb HW5 HR5
          refine hK _ _ ?_
          clear hK K
          try simp only [Act.put, List.setIfInBounds_toArray, List.set_cons_succ, List.set_cons_zero]
          refine takeL (.tuple #[.agg (u8s (bx.sec q)).toArray, .int .i64 bx.err]) rfl (by go_simp) ?_
          try simp only [Act.put, List.setIfInBounds_toArray, List.set_cons_succ, List.set_cons_zero]
          refine takeL (.agg (u8s (bx.sec q)).toArray) rfl (by go_simp) ?_
          try simp only [Act.put, List.setIfInBounds_toArray, List.set_cons_succ, List.set_cons_zero]
          refine takeL (.int .i64 bx.err) rfl (by go_simp) ?_
          try simp only [Act.put, List.setIfInBounds_toArray, List.set_cons_succ, List.set_cons_zero]
          refine takeL (.pointer (some ⟨g17, kk * 64, none⟩)) rfl (by go_simp) ?_
          try simp only [Act.put, List.setIfInBounds_toArray, List.set_cons_succ, List.set_cons_zero]
          refine store_sec HR7.out hkT (HSS.out) rfl rfl rfl ?_
          intro w31 hr hO hsz
          try simp only [Act.put, List.setIfInBounds_toArray, List.set_cons_succ, List.set_cons_zero]
          rw [List.set_set] at hr
          have HR8 := Lib.hid hr
          have HW8 := Lib.hid (HW7.out.trans (hO.below HW7.out.size fun k hk => by rw [hk]; exact HGE.out))
          clear hr hO hsz HW7 HR7
          refine wpList_nil ?_
          have c0 : w31.cell? ⟨w.heap.size, 0, none⟩ = some (.int .u32 n) := (HBS6.out.below HW8.out).p.cell rfl
          go_wp2_with fail
          refine (HRN.out _ _ HR8.out.secs).mono ?_
          rintro e w32 ⟨hro, hb⟩
          have he := hro.no
          subst he
          have HW9 := Lib.hid (stay HW8.out hb)
          clear hro hb c0 HR8 HW8 HRN
          go_wp2_with fail
          refine (HWK.out _).mono ?_
          rintro e w33 ⟨rfl, hb⟩
          have HW10 := Lib.hid (stay (stay HW9.out (alloc_bel w32 (.cells #[.slice none 0 0, .slice none 0 0, .int .i64 0, .int .i64 0] 36))) hb)
          clear hb
          go_wp2_with fail
          go_ret
          exact ⟨rfl, stay HBS6.out.l HW10.out⟩

end Go.Proofs.Ytbhaifdhmfmeoaa
