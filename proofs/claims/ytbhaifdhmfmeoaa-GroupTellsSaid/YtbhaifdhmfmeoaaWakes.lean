/- The statements' first call: a group of three items. -/
import Derived.Test.YtbhaifdhmfmeoaaKp
import Derived.Test.YtbhaifdhmfmeoaaGf
namespace Go.Proofs.Ytbhaifdhmfmeoaa
set_option linter.unusedSimpArgs false
set_option linter.unusedVariables false
open Go.RowKit

abbrev nb : Value := .slice none 0 0
/-- Sectors that are there behind an append to them. -/
theorem app_keepS {w w' : World} {B : Nat} {sv tv sv' : Value} {l m : List (List Int)} {ty : TypeId} (h : OwnS w B sv l) (hB : B ≤ w.heap.size) (k : SecsAt w tv m) (hm : 0 < m.length) (hlen : l.length + m.length ≤ 100000) (hr : (Builtin.append_ #[24, 24] ty #[sv, tv]).run Try.prog w = .ok sv' w') : SecsAt w' sv l := by
  obtain ⟨i, hi, hz, hs, hby⟩ := inf50
  obtain ⟨b, o, c, rfl, hcap, hbl, hc⟩ := k.has hm
  rcases h.row.2 with ⟨rfl, h0⟩ | ⟨g, cap, cur, e, hgB, hg, hn, hmx, hsz, htk⟩
  · have : l = [] := List.eq_nil_of_length_eq_zero h0
    subst this
    exact SecsAt.nil _ _ _
  · subst e
    by_cases hroom : l.length + m.length ≤ cap
    · obtain ⟨sv2, w2, hr2, ho2, hg2⟩ := app_ownS h hB k hlen ty
      have hroomrun := run_append_room (P := Try.prog) w 24 ty 50 i Try.underlying24 hi g l.length cap cur hg ⟨b, o, none⟩ m.length c (secCells m) (by rw [hs]; exact secCells_length k.sc) (sec_cells k.sc fun i y hy => (hc i y hy).2) (secCells_one m) hroom (by rw [hs, secCells_length k.sc, hsz]; have := Nat.mul_le_mul_right 64 hroom; rw [Nat.add_mul] at this; omega)
      rw [hr2] at hr
      cases hr
      rw [hr2] at hroomrun
      cases hroomrun
      obtain ⟨a3, c3, e3, hc3, hat⟩ := ho2.secs
      refine ⟨_, cap, rfl, hn, fun i y hy => ?_⟩
      have hil := (List.getElem?_eq_some_iff.1 hy).1
      obtain ⟨h1, g2, o2, h3, h4⟩ := hat i y (by rw [List.getElem?_append_left hil]; exact hy)
      injection e3 with q1 q2 q3
      rw [← q1] at h3
      injection h3 with h5
      injection h5 with h6 h7
      subst h6
      subst h7
      exact ⟨h1, g, 0, rfl, h4⟩
    · have hgr := run_append_grow (P := Try.prog) w 24 ty 50 i (.agg (u8s (zeros 64)).toArray) Try.underlying24 hi hz ⟨g, 0, none⟩ l.length cap (secCells l) (by rw [hs]; exact secCells_length h.all) (sec_cells h.all fun i y hy => by
        obtain ⟨a3, c3, e3, hc3, hat⟩ := h.secs
        obtain ⟨h1, g2, o2, h3, h4⟩ := hat i y hy
        injection e3 with q1 q2 q3
        rw [← q1] at h3
        injection h3 with h5
        injection h5 with h6 h7
        subst h6
        subst h7
        exact h4) ⟨b, o, none⟩ m.length c (secCells m) (by rw [hs]; exact secCells_length k.sc) (sec_cells k.sc fun i y hy => (hc i y hy).2) (by omega) (by omega) (by
          have := growslice_fits (need := l.length + m.length) (old := cap) (bytes := i.bytes) (by omega) (by rw [hby]; omega)
          omega)
      rw [hgr] at hr
      cases hr
      exact h.secs.below (((Below.refl w.heap.size w).drew).alloc (Nat.le_refl _) _)
section
variable {ops : Array Oper} {rest : List Oper} {dst : Option Tmp} {x y : Operand} {t2 : TypeId} {pos : String} {after : Array Edge} {guard : Option (Nat × Bool)} {a : Act} {w : World} {Q : Exit → Act → World → Prop}
theorem app_LSk {B : Nat} {sv tv : Value} {l m : List (List Int)} (h : OwnS w B sv l) (hB : B ≤ w.heap.size) (k : SecsAt w tv m) (hm : 0 < m.length) (hlen : l.length + m.length ≤ 100000) (hx : a.eval x = sv) (hy : a.eval y = tv)
    (hw : Region.wanted ⟨dst, .call { callee := .builtin .append, args := #[x, y], argTypes := #[24, 24] }, t2, pos, after, guard⟩ (yielded ops a.tmps) = true)
    (hh : ∀ sv' w', OwnS w' B sv' (l ++ m) → w.grownBy w' sv.ownBlock → SecsAt w' sv l → wpList Try.prog ops Q rest (a.put dst sv') w') : wpList Try.prog ops Q (⟨dst, .call { callee := .builtin .append, args := #[x, y], argTypes := #[24, 24] }, t2, pos, after, guard⟩ :: rest) a w := by
  obtain ⟨sv', w', hr, ho, hg⟩ := app_ownS h hB k hlen t2
  exact wpList_run sv' w' hw (exec_app a.eval _ x y 24 24 rfl sv tv sv' hx hy hr) (hh sv' w' ho hg (app_keepS h hB k hm hlen hr))
end
def WL : List It := [imgI 3 7, markI 5 5, imgI 9 8]
abbrev WV : List (It × Value) := [(imgI 3 7, nb), (markI 5 5, nb), (imgI 9 8, nb)]
theorem byteN (n : Nat) (h : n < 256) : Byte (n : Int) := ⟨by omega, by omega⟩
theorem smallN (n : Nat) (h : n < 1000) : Small (n : Int) := ⟨by omega, by omega⟩
theorem i37_wf : (imgI 3 7).Wf := imgI_wf (smallN 3 (by decide)) (byteN 7 (by decide))
theorem m55_wf : (markI 5 5).Wf := markI_wf (smallN 5 (by decide)) (smallN 5 (by decide))
theorem i98_wf : (imgI 9 8).Wf := imgI_wf (smallN 9 (by decide)) (byteN 8 (by decide))
theorem WV_all (w : World) : ∀ x ∈ WV, x.1.Wf ∧ BytesAt w x.2 x.1.blk.bytes := fun x hx => by
  simp only [List.mem_cons, List.not_mem_nil, or_false] at hx
  rcases hx with rfl | rfl | rfl
  · exact ⟨i37_wf, BytesAt.nil _ _ _⟩
  · exact ⟨m55_wf, BytesAt.nil _ _ _⟩
  · exact ⟨i98_wf, BytesAt.nil _ _ _⟩
theorem WL_wf : ∀ x ∈ WL, x.Wf := fun x hx => by
  simp only [WL, List.mem_cons, List.not_mem_nil, or_false] at hx
  rcases hx with rfl | rfl | rfl
  · exact i37_wf
  · exact m55_wf
  · exact i98_wf
theorem WL_may : mayBe WL = true := mayBe_iff.2 ⟨by decide, by decide, fun x hx => by
  simp only [WL, List.mem_cons, List.not_mem_nil, or_false] at hx
  rcases hx with rfl | rfl | rfl
  · exact imgI_ok (by decide)
  · exact markI_ok (.inr rfl) (by decide)
  · exact imgI_ok (by decide), by decide⟩
theorem WL_at : (lay2 258 WL).2 = [1, -1, 2] := by decide
theorem WL_len : (lay2 258 WL).1.length = 3 := by decide
theorem seqN (n : Nat) (h : n < 1000) : Seq32 (n : Int) := ⟨by omega, by simp only [M32]; omega⟩
theorem WL_two : mayBe [imgI 3 7, imgI 3 7] = false := by
  rw [← Bool.not_eq_true, mayBe_iff]
  rintro ⟨-, -, -, h⟩
  exact absurd h (by decide)
theorem WL_s1 : ∃ y, (lay2 258 WL).1[1]? = some y ∧ y[2]? = some 2 ∧ y[3]? = some 1 := ⟨_, rfl, by decide, by decide⟩
theorem WL_size : sizeOf' WL = 3 := by unfold sizeOf'; rw [WL_may]; decide
theorem WL_parts : partsN WL = 1 := by unfold partsN; rw [WL_may]; decide
theorem ReadOut.some {n : Int} {l : List It} {e : Ending} {w' : World} (h : ReadOut n (Option.some l) e w') : ∃ iv pl av, pl.map (·.1) = l ∧ e = .returned (.tuple #[.agg #[iv, av, .int .i64 (lay2 n l).1.length, .int .i64 (parts l.length)], .bool true]) ∧ ItemsAt w' iv pl ∧ IntsAt w' av (lay2 n l).2 := by
  rcases h with ⟨h, -⟩ | ⟨iv, pl, av, h, he, h1, h2⟩
  · cases h
  · cases h
    exact ⟨iv, pl, av, rfl, by rw [he, List.length_map], h1, h2⟩
theorem ReadOut.no {n : Int} {e : Ending} {w' : World} (h : ReadOut n none e w') : e = .returned (.tuple #[.agg #[.slice none 0 0, .slice none 0 0, .int .i64 0, .int .i64 0], .bool false]) := by
  rcases h with ⟨-, h⟩ | ⟨iv, pl, av, h, -⟩
  · exact h
  · cases h
theorem items_one {w : World} {iv : Value} {pl : List (It × Value)} (h : ItemsAt w iv pl) : ∃ a c, iv = .slice a pl.length c := by
  obtain ⟨a, c, e, -⟩ := h
  exact ⟨a, c, e⟩
theorem WV_lit (W : World) : ItemsAt (W.alloc (.cells (itCells WV).toArray 72)) (.slice (Option.some ⟨W.heap.size, 0, none⟩) 3 3) WV := (OwnI.lit (fun x hx => (WV_all W x hx).1) (fun x hx => (WV_all W x hx).2) (by decide)).items
theorem WV_run (W : World) : (Instr.buildSlice 22 3 #[(0, .agg ((imgI 3 7).arr nb)), (1, .agg ((markI 5 5).arr nb)), (2, .agg ((imgI 9 8).arr nb))]).run Try.prog W = .ok (.slice (Option.some ⟨W.heap.size, 0, none⟩) 3 3) (W.alloc (.cells (itCells WV).toArray 72)) := run_litI W WV (fun x hx => (WV_all W x hx).1) (by decide) (by decide)
theorem W2_lit (W : World) : ItemsAt (W.alloc (.cells (itCells [(imgI 3 7, nb), (imgI 3 7, nb)]).toArray 72)) (.slice (Option.some ⟨W.heap.size, 0, none⟩) 2 2) [(imgI 3 7, nb), (imgI 3 7, nb)] := (OwnI.lit (fun x hx => (WV_all W x (by simp at hx ⊢; exact .inl hx)).1) (fun x hx => (WV_all W x (by simp at hx ⊢; exact .inl hx)).2) (by decide)).items
theorem W2_run (W : World) : (Instr.buildSlice 22 2 #[(0, .agg ((imgI 3 7).arr nb)), (1, .agg ((imgI 3 7).arr nb))]).run Try.prog W = .ok (.slice (Option.some ⟨W.heap.size, 0, none⟩) 2 2) (W.alloc (.cells (itCells [(imgI 3 7, nb), (imgI 3 7, nb)]).toArray 72)) := run_litI W [(imgI 3 7, nb), (imgI 3 7, nb)] (fun x hx => (WV_all W x (by simp at hx ⊢; exact .inl hx)).1) (by decide) (by decide)
theorem alloc_bel (W : World) (o : Obj) : Below W.heap.size W (W.alloc o) := (Below.refl _ _).alloc (Nat.le_refl _) _
/-- What lies in memory when the answer is made. -/
structure WK (w wx : World) (g f5 : Nat) (s7 s8 : Value) (ia va : Option Addr) (ic vc : Nat) (pl : List (It × Value)) : Prop where
  items : ItemsAt wx (.slice (Option.some ⟨g, 0, none⟩) 3 3) WV
  bel : Below w.heap.size w wx
  secs : SecsAt wx s7 (lay2 258 WL).1
  ats : IntsAt wx s8 (lay2 258 WL).2
  its : ItemsAt wx (.slice ia 3 ic) pl
  ins : IntsAt wx (.slice va 3 vc) (lay2 258 WL).2
  box : Blk wx f5 [.slice ia 3 ic, .slice va 3 vc, .int .i64 3, .int .i64 1]
theorem WK.below {w wx wy : World} {g f5 : Nat} {s7 s8 : Value} {ia va : Option Addr} {ic vc : Nat} {pl : List (It × Value)} (h : WK w wx g f5 s7 s8 ia va ic vc pl) (hb : Below wx.heap.size wx wy) : WK w wy g f5 s7 s8 ia va ic vc pl :=
  ⟨h.items.below hb, stay h.bel hb, h.secs.below hb, h.ats.below hb, h.its.below hb, h.ins.below hb, h.box.below hb h.box.lt⟩
theorem at_lit (W : World) : IntsAt (W.alloc (.cells #[.int .i64 1, .int .i64 (-1), .int .i64 2] 3)) (.slice (Option.some ⟨W.heap.size, 0, none⟩) 3 3) [1, -1, 2] := (OwnN.lit W W.heap.size (Nat.le_refl _) [1, -1, 2] (by simp) _ rfl).ints
set_option maxRecDepth 100000 in
set_option maxHeartbeats 4000000 in
theorem wakes_any (w : World) : Calls Try.prog 10 #[] w fun e w' => e = .returned (.bool true) ∧ Below w.heap.size w w' := by
  have HI37 := Lib.hid fun w => image_any 3 7 (smallN 3 (by decide)) (byteN 7 (by decide)) w
  have HI98 := Lib.hid fun w => image_any 9 8 (smallN 9 (by decide)) (byteN 8 (by decide)) w
  have HLY := Lib.hid fun w sv h => lay_yes WV WL rfl WL_may 258 (seqN 258 (by decide)) sv w h
  have HLN := Lib.hid fun w sv h => lay_no [(imgI 3 7, nb), (imgI 3 7, nb)] [imgI 3 7, imgI 3 7] rfl WL_two 1 sv (by decide) w h
  have HSC := Lib.hid (lay2_sc WL_wf 258)
  have HR1 := Lib.hid fun w sv h => readG_any 258 (seqN 258 (by decide)) ((lay2 258 WL).1 ++ [zeros 64]) 4 (by rw [List.length_append, WL_len]; rfl) (by decide) sv w h
  have HR2 := Lib.hid fun w sv h => readG_any 259 (seqN 259 (by decide)) (lay2 258 WL).1 3 WL_len (by decide) sv w h
  rw [readP_lay WL_may WL_wf] at HR1
  have hno := readP_other (seqN 258 (by decide)) (seqN 259 (by decide)) (by decide) WL_may WL_wf [] (fun y hy => by cases hy)
  rw [List.append_nil] at hno
  rw [show ((258 : Nat) : Int) = 258 from rfl] at hno
  rw [show ((259 : Nat) : Int) = 259 from rfl] at hno
  rw [hno] at HR2
  have HWB := Lib.hid WV_run
  clear hno
  go_enter Try.func10, Try.ntmps10
  go_upto_region 1 with fail
  refine wp_region_lit ?_
  refine wpList_op rfl fun K hK => ?_
  go_simp
  refine (HI37.out _).mono ?_
  rintro e w1 ⟨rfl, hb⟩
  have HB1 := Lib.hid hb
  clear hb
  refine hK _ _ ?_
  clear hK K
  try simp only [Act.put, List.setIfInBounds_toArray, List.set_cons_succ, List.set_cons_zero]
  refine takeL (.agg #[.int .i64 5, .int .i64 5]) rfl (exec_build _ _ _ _ 70 _ rfl #[(0, .int .i64 5), (1, .int .i64 5)] (by simp only [List.map_toArray, List.map_cons, List.map_nil]; rfl) _ (run_build w1 70 _ _ (built70 _ _))) ?_
  try simp only [Act.put, List.setIfInBounds_toArray, List.set_cons_succ, List.set_cons_zero]
  refine takeL (.agg ((markI 5 5).arr nb)) rfl (exec_build _ _ _ _ 72 _ rfl #[(0, .agg #[.int .i64 5, .int .i64 5])] (by simp only [List.map_toArray, List.map_cons, List.map_nil]; rfl) _ (run_build w1 72 _ _ (built72m _ _))) ?_
  try simp only [Act.put, List.setIfInBounds_toArray, List.set_cons_succ, List.set_cons_zero]
  refine wpList_op rfl fun K hK => ?_
  go_simp
  refine (HI98.out _).mono ?_
  rintro e w2 ⟨rfl, hb⟩
  have HB2 := Lib.hid (stay HB1.out hb)
  clear hb HB1
  refine hK _ _ ?_
  clear hK K
  try simp only [Act.put, List.setIfInBounds_toArray, List.set_cons_succ, List.set_cons_zero]
  refine wpList_run _ _ rfl (exec_buildSlice _ _ _ _ 22 3 _ rfl #[(0, .agg ((imgI 3 7).arr nb)), (1, .agg ((markI 5 5).arr nb)), (2, .agg ((imgI 9 8).arr nb))] (by simp only [List.map_toArray, List.map_cons, List.map_nil]; rfl) _ (HWB.out w2)) ?_
  try simp only [Act.put, List.setIfInBounds_toArray, List.set_cons_succ, List.set_cons_zero]
  have HL3 := Lib.hid (WV_lit w2)
  have HB3 := Lib.hid (stay HB2.out (alloc_bel w2 (.cells (itCells WV).toArray 72)))
  generalize w2.alloc (.cells (itCells WV).toArray 72) = w3 at *
  generalize w2.heap.size = g at *
  clear HB2 HWB
  refine takeL (.slice (some ⟨g, 0, none⟩) 3 3) rfl (by go_simp) ?_
  try simp only [Act.put, List.setIfInBounds_toArray, List.set_cons_succ, List.set_cons_zero]
  refine wpList_nil ?_
  go_wp2_with fail
  refine (HLY.out _ _ HL3.out).mono ?_
  rintro e w4 ⟨s7, s8, rfl, ht⟩
  have HT := Lib.hid ht
  have HB4 := Lib.hid (stay HB3.out ht.b)
  have HL4 := Lib.hid (HL3.out.below ht.b)
  have HB3' := Lib.hid HB3.out
  have HL3' := Lib.hid HL3.out
  clear ht HB3 HL3 HLY
  go_upto_region 3 with fail
  refine wp_region_lit ?_
  refine takeL (s7) rfl (by go_simp) ?_
  try simp only [Act.put, List.setIfInBounds_toArray, List.set_cons_succ, List.set_cons_zero]
  refine build_g (build50 _) rfl ?_
  try simp only [Act.put, List.setIfInBounds_toArray, List.set_cons_succ, List.set_cons_zero]
  refine lit_LS zeros_sc rfl rfl ?_
  intro w5 hz hb5
  try simp only [Act.put, List.setIfInBounds_toArray, List.set_cons_succ, List.set_cons_zero]
  have HT5 := Lib.hid (HT.out.below hb5)
  have HLN3 := Lib.hid WL_len
  refine app_LSk HT5.out.s HT5.out.b.size hz (Nat.succ_pos 0) (by rw [HLN3.out]; simp) rfl rfl rfl ?_
  intro t7 w6 ho6 hg6 hk6
  try simp only [Act.put, List.setIfInBounds_toArray, List.set_cons_succ, List.set_cons_zero]
  have HT6 := Lib.hid (HT5.out.secs ho6 hg6)
  have HS6 := Lib.hid ho6.secs
  have HK6 := Lib.hid hk6
  have HB6 : Hid (Below w.heap.size w w6) := Lib.hid (HB3'.out.trans (HT6.out.b.mono HB3'.out.size))
  have HL6 := Lib.hid (HL3'.out.below HT6.out.b)
  clear ho6 hg6 hk6 HT5 HT hb5 hz
  refine wpList_op rfl fun K hK => ?_
  go_simp
  refine (HR1.out _ _ HS6.out).mono ?_
  rintro e w7 ⟨hro, hb⟩
  obtain ⟨iv, pl, av, hpl, rfl, hit, hin⟩ := hro.some
  have HL7 := Lib.hid (HL6.out.below hb)
  have HB7 := Lib.hid (stay HB6.out hb)
  have HK7 := Lib.hid (HK6.out.below hb)
  have HA7 := Lib.hid (HT6.out.a.ints.below hb)
  have HIT := Lib.hid hit
  have HIN := Lib.hid hin
  have HPL := Lib.hid hpl
  have hpl3 : pl.length = 3 := by
    have := congrArg List.length hpl
    simpa [WL] using this
  obtain ⟨ia, ic, hia⟩ := items_one hit
  rw [hpl3] at hia
  obtain ⟨va, vc, hva⟩ := hin.form
  rw [show (lay2 258 WL).2.length = 3 by rw [WL_at]; rfl] at hva
  subst hia
  subst hva
  rw [show ((lay2 258 WL).1.length : Int) = 3 by rw [WL_len]; rfl, show ((parts WL.length : Nat) : Int) = 1 by decide]
  clear hro hb hit hin hpl HL6 HB6 HK6 HT6 HS6 HR1
  refine hK _ _ ?_
  clear hK K
  try simp only [Act.put, List.setIfInBounds_toArray, List.set_cons_succ, List.set_cons_zero]
  refine takeL (.tuple #[.agg #[.slice ia 3 ic, .slice va 3 vc, .int .i64 3, .int .i64 1], .bool true]) rfl (by go_simp) ?_
  try simp only [Act.put, List.setIfInBounds_toArray, List.set_cons_succ, List.set_cons_zero]
  refine takeL (.agg #[.slice ia 3 ic, .slice va 3 vc, .int .i64 3, .int .i64 1]) rfl (by go_simp) ?_
  try simp only [Act.put, List.setIfInBounds_toArray, List.set_cons_succ, List.set_cons_zero]
  refine takeL (.bool true) rfl (by go_simp) ?_
  try simp only [Act.put, List.setIfInBounds_toArray, List.set_cons_succ, List.set_cons_zero]
  refine alloc_g zero36 rfl ?_
  intro w8 hA hb hl
  try simp only [Act.put, List.setIfInBounds_toArray, List.set_cons_succ, List.set_cons_zero]
  refine store_all (cs := #[.slice ia 3 ic, .slice va 3 vc, .int .i64 3, .int .i64 1]) hA rfl info36 (four_one _ _ _ _ _ _ _ _) rfl rfl rfl ?_
  intro w9 hD hO hlD
  try simp only [Act.put, List.setIfInBounds_toArray, List.set_cons_succ, List.set_cons_zero]
  have hbb : Below w7.heap.size w7 w9 := hb.trans (hO.below hb.size fun k hk => Nat.le_of_eq hk.symm)
  have HX9 := Lib.hid (WK.mk (HL7.out.below hbb) (stay HB7.out hbb) (HK7.out.below hbb) (HA7.out.below hbb) (HIT.out.below hbb) (HIN.out.below hbb) hD)
  generalize w7.heap.size = f5 at *
  clear hA hb hl hD hO hlD hbb HL7 HB7 HK7 HA7 HIT HIN
  refine takeL (.bool true) rfl (by go_simp) ?_
  try simp only [Act.put, List.setIfInBounds_toArray, List.set_cons_succ, List.set_cons_zero]
  refine wpList_nil ?_
  go_wp2_with fail
  refine (HR2.out _ _ HX9.out.secs).mono ?_
  rintro e w10 ⟨hro, hb⟩
  have he := hro.no
  subst he
  have HX10 := Lib.hid (HX9.out.below hb)
  clear hro hb HX9 HR2
  go_upto_region 5 with fail
  have HX11 := Lib.hid (HX10.out.below (alloc_bel w10 (.cells #[.slice none 0 0, .slice none 0 0, .int .i64 0, .int .i64 0] 36)))
  generalize w10.alloc (.cells #[.slice none 0 0, .slice none 0 0, .int .i64 0, .int .i64 0] 36) = w11 at *
  generalize w10.heap.size = f7 at *
  clear HX10
  obtain ⟨g0, o0, c0, heq, -, hg0, hat0⟩ := HX11.out.items.has (by decide)
  injection heq with q1 q2 q3
  injection q1 with q4
  injection q4 with q5 q6 q7
  subst q5
  subst q6
  have HA0 := Lib.hid (hat0 0 _ rfl).2.2
  have HG0 := Lib.hid hg0
  have HW37 := Lib.hid i37_wf
  have HW2 := Lib.hid W2_run
  clear hat0 hg0 q2 q3
  refine startH (fun wq => Below w11.heap.size w11 wq) (by kernel_rfl) ?_
  refine takeH 0 (some 37) (.slice (some ⟨g, 0, none⟩) 3 3) rfl rfl (by kernel_rfl) (by kernel_rfl) (by kernel_rfl) (fun _ _ _ h => h) rfl (fun wq hS => by go_simp) (Below.refl _ _).drew ?_
  try simp only [Act.put, List.setIfInBounds_toArray, List.set_cons_succ, List.set_cons_zero]
  refine takeH 1 (some 38) (.pointer (some ⟨g, 0, none⟩)) rfl rfl (by kernel_rfl) (by kernel_rfl) (by kernel_rfl) (fun _ _ _ h => h) rfl (fun wq hS => by go_simp) (Below.refl _ _).drew ?_
  try simp only [Act.put, List.setIfInBounds_toArray, List.set_cons_succ, List.set_cons_zero]
  refine takeH 2 (some 39) (.agg ((imgI 3 7).arr nb)) rfl rfl (by kernel_rfl) (by kernel_rfl) (by kernel_rfl) (fun _ _ _ h => h) rfl (fun wq hS => exec_load_at wq _ _ 72 _ rfl (g) (0) rfl ((imgI 3 7).arr nb) _ Try.underlying72 rfl (info72s HW37.out _) (HA0.out.below hS HG0.out)) (Below.refl _ _).drew ?_
  try simp only [Act.put, List.setIfInBounds_toArray, List.set_cons_succ, List.set_cons_zero]
  refine takeH 3 (some 40) (.slice (some ⟨g, 0, none⟩) 3 3) rfl rfl (by kernel_rfl) (by kernel_rfl) (by kernel_rfl) (fun _ _ _ h => h) rfl (fun wq hS => by go_simp) (Below.refl _ _).drew ?_
  try simp only [Act.put, List.setIfInBounds_toArray, List.set_cons_succ, List.set_cons_zero]
  refine takeH 4 (some 41) (.pointer (some ⟨g, 0, none⟩)) rfl rfl (by kernel_rfl) (by kernel_rfl) (by kernel_rfl) (fun _ _ _ h => h) rfl (fun wq hS => by go_simp) (Below.refl _ _).drew ?_
  try simp only [Act.put, List.setIfInBounds_toArray, List.set_cons_succ, List.set_cons_zero]
  refine takeH 5 (some 42) (.agg ((imgI 3 7).arr nb)) rfl rfl (by kernel_rfl) (by kernel_rfl) (by kernel_rfl) (fun _ _ _ h => h) rfl (fun wq hS => exec_load_at wq _ _ 72 _ rfl (g) (0) rfl ((imgI 3 7).arr nb) _ Try.underlying72 rfl (info72s HW37.out _) (HA0.out.below hS HG0.out)) (Below.refl _ _).drew ?_
  try simp only [Act.put, List.setIfInBounds_toArray, List.set_cons_succ, List.set_cons_zero]
  refine oneH 6 (by kernel_rfl) rfl rfl fun K hK => ?_
  refine wp_runTo (some 43) rfl _ _ (exec_buildSlice _ _ _ _ 22 2 _ rfl #[(0, .agg ((imgI 3 7).arr nb)), (1, .agg ((imgI 3 7).arr nb))] (by simp only [List.map_toArray, List.map_cons, List.map_nil]; rfl) _ (HW2.out w11.drew)) ?_
  have HI12 := Lib.hid (W2_lit w11.drew)
  have HS12 : Hid (Below w11.heap.size w11 (w11.drew.alloc (.cells (itCells [(imgI 3 7, nb), (imgI 3 7, nb)]).toArray 72))) := Lib.hid ((Below.refl w11.heap.size w11).drew.alloc (Nat.le_refl _) _)
  refine hK _ _ HS12.out ?_
  clear hK K HW2
  generalize w11.drew.alloc (.cells (itCells [(imgI 3 7, nb), (imgI 3 7, nb)]).toArray 72) = w12 at *
  generalize w11.drew.heap.size = g12 at *
  try simp only [Act.put, List.setIfInBounds_toArray, List.set_cons_succ, List.set_cons_zero]
  refine oneH 7 (by kernel_rfl) rfl rfl fun K hK => ?_
  go_simp
  refine (HLN.out _ _ HI12.out).mono ?_
  rintro e w13 ⟨rfl, hb⟩
  have HS13 := Lib.hid (stay HS12.out hb)
  refine hK _ _ HS13.out ?_
  clear hK K hb HS12 HI12 HLN
  try simp only [Act.put, List.setIfInBounds_toArray, List.set_cons_succ, List.set_cons_zero]
  refine takeH 8 (some 36) (.tuple #[nb, nb, .int .i64 1]) rfl rfl (by kernel_rfl) (by kernel_rfl) (by kernel_rfl) (fun _ _ _ h => h) rfl (fun wq hS => by go_simp) HS13.out ?_
  try simp only [Act.put, List.setIfInBounds_toArray, List.set_cons_succ, List.set_cons_zero]
  refine takeH 9 (some 45) (nb) rfl rfl (by kernel_rfl) (by kernel_rfl) (by kernel_rfl) (fun _ _ _ h => h) rfl (fun wq hS => by go_simp) HS13.out ?_
  try simp only [Act.put, List.setIfInBounds_toArray, List.set_cons_succ, List.set_cons_zero]
  refine takeH 12 (some 9) (nb) rfl rfl (by kernel_rfl) (by kernel_rfl) (by kernel_rfl) (fun _ _ _ h => h) rfl (fun wq hS => by go_simp) HS13.out ?_
  try simp only [Act.put, List.setIfInBounds_toArray, List.set_cons_succ, List.set_cons_zero]
  refine takeH 10 (some 46) (nb) rfl rfl (by kernel_rfl) (by kernel_rfl) (by kernel_rfl) (fun _ _ _ h => h) rfl (fun wq hS => by go_simp) HS13.out ?_
  try simp only [Act.put, List.setIfInBounds_toArray, List.set_cons_succ, List.set_cons_zero]
  refine takeH 13 (some 10) (nb) rfl rfl (by kernel_rfl) (by kernel_rfl) (by kernel_rfl) (fun _ _ _ h => h) rfl (fun wq hS => by go_simp) HS13.out ?_
  try simp only [Act.put, List.setIfInBounds_toArray, List.set_cons_succ, List.set_cons_zero]
  refine takeH 11 (some 47) (.int .i64 1) rfl rfl (by kernel_rfl) (by kernel_rfl) (by kernel_rfl) (fun _ _ _ h => h) rfl (fun wq hS => by go_simp) HS13.out ?_
  try simp only [Act.put, List.setIfInBounds_toArray, List.set_cons_succ, List.set_cons_zero]
  refine takeH 14 (some 11) (.int .i64 1) rfl rfl (by kernel_rfl) (by kernel_rfl) (by kernel_rfl) (fun _ _ _ h => h) rfl (fun wq hS => by go_simp) HS13.out ?_
  try simp only [Act.put, List.setIfInBounds_toArray, List.set_cons_succ, List.set_cons_zero]
  refine wpAnyH_done (by kernel_rfl) ?_ _
  have HX13 := Lib.hid (HX11.out.below HS13.out)
  clear HX11 HS13 HA0 HG0
  obtain ⟨g7, o7, c7, hs7, -, hg7, hat7⟩ := HX13.out.secs.has (by rw [WL_len]; decide)
  rw [WL_len] at hs7
  subst hs7
  obtain ⟨y, hy, hy2, hy3⟩ := WL_s1
  obtain ⟨hysc, hyat⟩ := hat7 1 y hy
  have d2 : ∀ wq, Below w13.heap.size w13 wq → wq.cell? ⟨g7, o7 + 66, none⟩ = some (.int .u8 2) := fun wq hq => by
    have h := (hyat.below hq hg7) 2 (by rw [hysc.size]; decide)
    rw [show o7 + 1 * 64 + 2 = o7 + 66 by omega] at h
    rw [h]
    have := List.getElem?_map (f := Value.int IntKind.u8) (l := y) (i := 2)
    rw [hy2] at this
    simp only [List.getElem_toArray]
    rw [← List.getElem?_eq_getElem, this]
    rfl
  have d3 : ∀ wq, Below w13.heap.size w13 wq → wq.cell? ⟨g7, o7 + 67, none⟩ = some (.int .u8 1) := fun wq hq => by
    have h := (hyat.below hq hg7) 3 (by rw [hysc.size]; decide)
    rw [show o7 + 1 * 64 + 3 = o7 + 67 by omega] at h
    rw [h]
    have := List.getElem?_map (f := Value.int IntKind.u8) (l := y) (i := 3)
    rw [hy3] at this
    simp only [List.getElem_toArray]
    rw [← List.getElem?_eq_getElem, this]
    rfl
  have HD2 := Lib.hid d2
  have HD3 := Lib.hid d3
  clear hat7 hyat d2 d3 hy hy2 hy3 hysc hg7
  obtain ⟨a8, c8, hs8⟩ := HX13.out.ats.form
  rw [show (lay2 258 WL).2.length = 3 by rw [WL_at]; rfl] at hs8
  subst hs8
  have HIA := Lib.hid fun sv tv w h k => ints_any [1, -1, 2] [1, -1, 2] (by decide) (by decide) sv tv w h k
  have HIT := Lib.hid fun sv tv w h k => items_any sv tv pl WV (by rw [hpl3]; decide) (by decide) w h k
  rw [sameIts_yes (show pl.map (·.1) = WV.map (·.1) from HPL.out)] at HIT
  have HSZ := Lib.hid fun sv w h => sizeG_any WV WL rfl sv (by decide) w h
  rw [WL_size] at HSZ
  have HPT := Lib.hid fun sv w h => partsG_any WV WL rfl sv (by decide) w h
  rw [WL_parts] at HPT
  rw [show decide (([1, -1, 2] : List Int) = [1, -1, 2]) = true by decide] at HIA
  go_wp2_with fail
  have HX14 := Lib.hid (HX13.out.below (alloc_bel w13 (.cells #[.int .i64 1, .int .i64 (-1), .int .i64 2] 3)))
  have HAL := Lib.hid (at_lit w13)
  refine (HIA.out _ _ _ (by have := HX14.out.ats; rwa [WL_at] at this) HAL.out).mono ?_
  rintro e w14 ⟨rfl, hb⟩
  have HX15 := Lib.hid (HX14.out.below hb)
  have hq := stay (alloc_bel w13 (.cells #[.int .i64 1, .int .i64 (-1), .int .i64 2] 3)) hb
  have cb2 : w14.cell? ⟨g7, o7 + 66, none⟩ = some (.int .u8 2) := HD2.out _ hq
  have cb3 : w14.cell? ⟨g7, o7 + 67, none⟩ = some (.int .u8 1) := HD3.out _ hq
  have b0 : w14.cell? ⟨f5, 0, none⟩ = some (.slice ia 3 ic) := HX15.out.box.cell rfl
  have b1 : w14.cell? ⟨f5, 1, none⟩ = some (.slice va 3 vc) := HX15.out.box.cell rfl
  have b2 : w14.cell? ⟨f5, 2, none⟩ = some (.int .i64 3) := HX15.out.box.cell rfl
  have b3 : w14.cell? ⟨f5, 3, none⟩ = some (.int .i64 1) := HX15.out.box.cell rfl
  clear hq hb HX13 HX14 HAL HD2 HD3
  go_wp2_with fail
  refine (HIT.out _ _ _ HX15.out.its HX15.out.items).mono ?_
  rintro e w15 ⟨rfl, hb⟩
  have HX16 := Lib.hid (HX15.out.below hb)
  clear b0 b1 b2 b3 cb2 cb3 hb HX15 HIT
  have b1 : w15.cell? ⟨f5, 1, none⟩ = some (.slice va 3 vc) := HX16.out.box.cell rfl
  go_wp2_with fail
  refine (HIA.out _ _ _ (by have := HX16.out.ins; rwa [WL_at] at this) (by have := HX16.out.ats; rwa [WL_at] at this)).mono ?_
  rintro e w16 ⟨rfl, hb⟩
  have HX17 := Lib.hid (HX16.out.below hb)
  clear b1 hb HX16 HIA
  go_wp2_with fail
  refine (HSZ.out _ _ HX17.out.items).mono ?_
  rintro e w17 ⟨rfl, hb⟩
  have HX18 := Lib.hid (HX17.out.below hb)
  clear hb HX17 HSZ
  go_wp2_with fail
  refine (HPT.out _ _ HX18.out.items).mono ?_
  rintro e w18 ⟨rfl, hb⟩
  have HB19 := Lib.hid (stay HX18.out.bel hb)
  clear hb HX18 HPT
  go_wp2_with fail
  go_ret
  exact ⟨rfl, HB19.out⟩

end Go.Proofs.Ytbhaifdhmfmeoaa
