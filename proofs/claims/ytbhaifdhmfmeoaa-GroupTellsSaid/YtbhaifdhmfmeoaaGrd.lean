/- Package group's Read. -/
import Derived.Test.YtbhaifdhmfmeoaaGth
import Derived.Test.YtbhaifdhmfmeoaaSame
namespace Go.Proofs.Ytbhaifdhmfmeoaa
set_option linter.unusedSimpArgs false
set_option linter.unusedVariables false
open Go.RowKit

theorem zero36 : (Try.prog.info? 36).bind (·.zero) = some (.agg #[.slice none 0 0, .slice none 0 0, .int .i64 0, .int .i64 0]) := by kernel_rfl
theorem info36 : (Try.prog.info? 36).map (·.size) = some 4 := by kernel_rfl
theorem built36e : Try.prog.built 36 [] = some #[.slice none 0 0, .slice none 0 0, .int .i64 0, .int .i64 0] := by kernel_rfl
theorem built36 (a b : Option Addr) (k c n d : Nat) (x y : Int) : Try.prog.built 36 [(0, .slice a k c), (1, .slice b n d), (2, .int .i64 x), (3, .int .i64 y)] = some #[.slice a k c, .slice b n d, .int .i64 x, .int .i64 y] := by kernel_rfl
/-- What Read hands back. -/
def ReadOut (n : Int) (r : Option (List It)) (e : Ending) (w' : World) : Prop := (r = none ∧ e = .returned (.tuple #[.agg #[.slice none 0 0, .slice none 0 0, .int .i64 0, .int .i64 0], .bool false])) ∨
  ∃ iv pl av, r = some (pl.map (·.1)) ∧ e = .returned (.tuple #[.agg #[iv, av, .int .i64 (lay2 n (pl.map (·.1))).1.length, .int .i64 (parts pl.length)], .bool true]) ∧ ItemsAt w' iv pl ∧ IntsAt w' av (lay2 n (pl.map (·.1))).2
theorem four_one (a b : Option Addr) (k c n d : Nat) (x y : Int) : ∀ v ∈ (#[.slice a k c, .slice b n d, .int .i64 x, .int .i64 y] : Array Value), v.oneCell' = true := fun v hv => by
  simp only [List.mem_toArray, List.mem_cons, List.not_mem_nil, or_false] at hv
  rcases hv with rfl | rfl | rfl | rfl <;> rfl
theorem results_cell_tmpP {P : Program} {fn : Func} {p q : Tmp} {ty : TypeId} (h : fn.results = #[.cell p ty, .tmp q]) (tmps : Array Value) (w : World) (g off : Nat) (cs : Array Value) (d : TypeDesc) (v : Value)
    (hp : tmps.getD p undef = .pointer (some ⟨g, off, none⟩)) (hv : tmps.getD q undef = v) (hu : P.underlying ty = some d) (hd : (match d with | .struct _ | .array _ _ => true | _ => false) = true) (hi : (P.info? ty).map (·.size) = some cs.size)
    (hc : ∀ j (h : j < cs.size), w.cell? ⟨g, off + j, none⟩ = some cs[j]) :
    (results fn tmps).run P w = .ok (.tuple #[.agg cs, v]) w := results_cell_tmp h tmps w g off cs d v hp hv hu hd hi hc
theorem gather_len {L : List (List Int)} : (gather L).2 ≤ L.length := by
  have key : ∀ f P t, t ≤ L.length → (gat L f P t).2 ≤ L.length := by
    intro f
    induction f with
    | zero => intro P t _; exact Nat.zero_le _
    | succ f ih =>
      intro P t ht
      unfold gat
      split
      · exact Nat.zero_le _
      · rename_i y hy
        have htl := (List.getElem?_eq_some_iff.1 hy).1
        split
        · rename_i hc
          cases e : itemsP (sreadOf y).marks (L.drop (t + 1)) with
          | none => exact Nat.zero_le _
          | some p =>
            have h2 := (itemsP_len e).2
            rw [List.length_drop] at h2
            simp only
            split
            · exact ih _ _ (by omega)
            · simp only; omega
        · exact Nat.zero_le _
  exact key _ _ _ (Nat.zero_le _)
theorem gather_many {L : List (List Int)} : (gather L).1.length ≤ 88 := by
  have key : ∀ f P t, (gat L f P t).1.length ≤ 88 := by
    intro f
    induction f with
    | zero => intro P t; exact Nat.zero_le _
    | succ f ih =>
      intro P t
      unfold gat
      split
      · exact Nat.zero_le _
      · rename_i y hy
        split
        · rename_i hc
          cases e : itemsP (sreadOf y).marks (L.drop (t + 1)) with
          | none => exact Nat.zero_le _
          | some p =>
            have h2 := (itemsP_len e).1
            have h3 := (good_len (sum_good hc.2)).2
            simp only
            split
            · exact ih _ _
            · simp only [List.length_append]; omega
        · exact Nat.zero_le _
  exact key _ _ _
/-- A variable that holds no byte, and few cells. -/
structure NoIt (L : List Value) : Prop where
  few : L.length ≤ 46
  byte : ∀ x, (Value.int .u8 x) ∉ L
theorem Blk.has_cell {w : World} {g : Nat} {L : List Value} (h : Blk w g L) {i : Nat} {v : Value} (hc : w.cell? ⟨g, i, none⟩ = some v) : L[i]? = some v := by
  obtain ⟨t, ht⟩ := h
  rw [cell_of_row w g i _ t _ ht] at hc
  simpa using hc
theorem ItemsAt.only {w w' : World} {sv : Value} {l : List (It × Value)} {g : Nat} {L : List Value} (h : ItemsAt w sv l) (hb : Blk w g L) (hL : NoIt L) (ho : Only (fun k => k = g) w w') : ItemsAt w' sv l := by
  obtain ⟨a, cap, e, hcap, hc⟩ := h
  refine ⟨a, cap, e, hcap, fun i x hx => ?_⟩
  obtain ⟨h1, h2, b, o, h3, h4⟩ := hc i x hx
  have hne : b ≠ g := by
    rintro rfl
    have := hb.has_cell (h4 46 (by rw [It.arr_size h1]; decide))
    have := (List.getElem?_eq_some_iff.1 this).1
    have := hL.few
    omega
  have hbb := ho.block b (h4.lt (by rw [It.arr_size h1]; decide)) hne
  refine ⟨h1, ?_, b, o, h3, fun j hj => ?_⟩
  · by_cases h0 : x.1.blk.bytes.length = 0
    · obtain ⟨a, cap, e, _⟩ := h2
      exact ⟨a, cap, e, fun i z hz => by rw [List.eq_nil_of_length_eq_zero h0] at hz; simp at hz⟩
    · refine h2.only ho fun b2 o2 n2 c2 e2 => ?_
      rintro rfl
      obtain ⟨b3, o3, c3, e3, hc3⟩ := h2.has (by omega)
      rw [e2] at e3
      cases e3
      have := hb.has_cell (hc3 0 x.1.blk.bytes[0] (by simp))
      exact hL.byte _ (List.mem_of_getElem? this)
  · rw [← h4 j hj]
    simp only [World.cell?, hbb]
theorem noIt4 (a b : Option Addr) (k c n d : Nat) (x y : Int) : NoIt [.slice a k c, .slice b n d, .int .i64 x, .int .i64 y] := ⟨by simp, fun z hz => by simp at hz⟩
set_option maxRecDepth 100000 in
set_option maxHeartbeats 4000000 in
theorem readG_any (n : Int) (hn : Seq32 n) (L : List (List Int)) (N : Nat) (hN : L.length = N) (hNN : N ≤ 100000) (sv : Value) (w : World) (h : SecsAt w sv L) : Calls Try.prog 14 #[.int .u32 n, sv] w fun e w' => ReadOut n (readP n L) e w' ∧ Below w.heap.size w w' := by
  have HGA := Lib.hid fun w h => gather_any L N hN hNN sv w h
  have HI := Lib.hid h
  obtain ⟨a, cap, rfl, hcap, -⟩ := h
  have HN := Lib.hid hN
  rw [hN] at HGA HI hcap ⊢
  have HT := Lib.hid (gather_len (L := L))
  have HM := Lib.hid (gather_many (L := L))
  have HCAP := Lib.hid hcap
  clear hcap hN
  go_enter Try.func14, Try.ntmps14
  go_upto_region 0 with fail
  refine wp_region_lit ?_
  refine alloc_g zero36 rfl ?_
  intro w1 hR hb hl
  try simp only [Act.put, List.setIfInBounds_toArray, List.set_cons_succ, List.set_cons_zero]
  have HR := Lib.hid hR
  have HB := Lib.hid hb
  have HL := Lib.hid hl
  have HI1 := Lib.hid (HI.out.below hb)
  clear hR hb hl
  refine takeL (.bool false) rfl (by go_simp) ?_
  try simp only [Act.put, List.setIfInBounds_toArray, List.set_cons_succ, List.set_cons_zero]
  refine wpList_nil ?_
  go_wp2_with fail
  refine (HGA.out _ HI1.out).mono ?_
  rintro e w2 ⟨⟨iv, pl, h1, rfl, h2⟩, hb⟩
  have HB2 := Lib.hid (stay HB.out hb)
  have HR2 := Lib.hid (HR.out.below hb HL.out)
  have HI2 := Lib.hid (HI1.out.below hb)
  have HL2 : Hid (w.heap.size < w2.heap.size) := Lib.hid (Nat.lt_of_lt_of_le HL.out hb.size)
  have HP2 := Lib.hid h2
  have HRP : Hid (readP n L = if mayBe (pl.map (·.1)) && decide ((lay2 n (pl.map (·.1))).1 = L.take (gather L).2) then some (pl.map (·.1)) else none) := Lib.hid (by unfold readP; rw [h1])
  have hpl := HM.out
  rw [h1, List.length_map] at hpl
  have HPL := Lib.hid hpl
  obtain ⟨ia, ic, hiv, -⟩ := h2
  have HTT := HT.out
  rw [HN.out] at HTT
  obtain ⟨t, ht⟩ : ∃ t, (gather L).2 = t := ⟨_, rfl⟩
  rw [ht] at HRP HTT ⊢
  clear h1 hb HB HR HI1 HL HGA hpl HT HM ht
  obtain ⟨pn, hpn⟩ : ∃ p, pl.length = p := ⟨_, rfl⟩
  rw [hpn] at hiv
  subst hiv
  have HPN := Lib.hid hpn
  have hpn88 : pn ≤ 88 := by have := HPL.out; omega
  clear hpn HPL
  have HPA := Lib.hid fun w => partsOf_any (.slice ia pn ic) pn ⟨_, _, rfl⟩ (by omega) w
  cases hm : mayBe (pl.map (·.1))
  · have HX : Hid (readP n L = none) := Lib.hid (by rw [HRP.out, hm, Bool.false_and]; exact if_neg Bool.false_ne_true)
    have HLN := Lib.hid fun w h => lay_no pl (pl.map (·.1)) rfl hm n (.slice ia pn ic) (by have := HPN.out; omega) w h
    clear hm
    go_wp2_with fail
    refine (HLN.out _ HP2.out).mono ?_
    rintro e w3 ⟨rfl, hb⟩
    have HB3 := Lib.hid (stay HB2.out hb)
    have HR3 := Lib.hid (HR2.out.below hb HL2.out)
    clear hb HB2 HR2 HI2 HP2 HLN
    go_upto_region 4 with fail
    refine wp_region_lit ?_
    refine build_g (run_build _ 36 _ _ built36e) rfl ?_
    try simp only [Act.put, List.setIfInBounds_toArray, List.set_cons_succ, List.set_cons_zero]
    refine store_all (cs := #[.slice none 0 0, .slice none 0 0, .int .i64 0, .int .i64 0]) HR3.out rfl info36 (four_one none none 0 0 0 0 0 0) rfl rfl rfl ?_
    intro w4 hZ hO hlZ
    try simp only [Act.put, List.setIfInBounds_toArray, List.set_cons_succ, List.set_cons_zero]
    have HB4 := Lib.hid (HB3.out.trans (hO.below HB3.out.size fun k hk => Nat.le_of_eq hk.symm))
    refine takeL (.bool false) rfl (by go_simp) ?_
    try simp only [Act.put, List.setIfInBounds_toArray, List.set_cons_succ, List.set_cons_zero]
    refine wpList_nil ?_
    go_wp2_with fail
    refine bodyPost_ret (v := .tuple #[.agg #[.slice none 0 0, .slice none 0 0, .int .i64 0, .int .i64 0], .bool false]) (results_cell_tmp rfl _ _ w.heap.size 0 _ _ _ rfl rfl Try.underlying36 rfl info36 (hZ.all rfl)) rfl ⟨.inl ⟨HX.out, rfl⟩, HB4.out⟩
  · rw [hm, Bool.true_and] at HRP
    have HLY := Lib.hid fun w h => lay_yes pl (pl.map (·.1)) rfl hm n hn (.slice ia pn ic) w h
    clear hm
    have HLL := Lib.hid (lay2_length n (pl.map (·.1)))
    have HLB := Lib.hid (blocks_le (marks (pl.map (·.1))))
    have HLSM : Hid ((lay2 n (pl.map (·.1))).1.length ≤ 100000) := Lib.hid (by
      have h1 := HLL.out
      have h2 := HLB.out
      rw [List.length_map, List.length_map] at h2
      rw [List.length_map, HPN.out] at h1
      have h3 : parts pn ≤ pn + 1 := by unfold parts; omega
      have h4 := HPN.out
      omega)
    go_wp2_with fail
    refine (HLY.out _ HP2.out).mono ?_
    rintro e w3 ⟨s7, s8, rfl, ht⟩
    have HB3 := Lib.hid (stay HB2.out ht.b)
    have HR3 := Lib.hid (HR2.out.below ht.b HL2.out)
    have HI3 := Lib.hid (HI2.out.below ht.b)
    have HP3 := Lib.hid (HP2.out.below ht.b)
    have HS3 := Lib.hid ht.s.secs
    have HA3 := Lib.hid ht.a.ints
    have HN8 : Hid (∀ k, s8.ownBlock = some k → k ≠ w.heap.size) := Lib.hid fun k hk => by have h1 := (ht.a.lt k hk).1; have h2 := HL2.out; omega
    have HL3 : Hid (w.heap.size < w3.heap.size) := Lib.hid (Nat.lt_of_lt_of_le HL2.out ht.b.size)
    have HCT : Hid (SecsAt w3 (.slice (cutA a 0 cap 64) t cap) (L.take t)) := Lib.hid (by
      have := HI3.out.cut 0 t (Nat.zero_le _) HTT (L.take t) (by simp)
      simpa using this)
    have HEQ := Lib.hid (equal_any s7 (.slice (cutA a 0 cap 64) t cap) (lay2 n (pl.map (·.1))).1 (L.take t) HLSM.out (by rw [List.length_take]; have := HN.out; omega) w3 HS3.out HCT.out)
    obtain ⟨a7, c7, hs7, -⟩ := ht.s.len
    obtain ⟨a8, c8, hs8⟩ := ht.a.ints.form
    subst hs7
    subst hs8
    have htc : t ≤ cap := by have := HCAP.out; omega
    obtain ⟨l7, hl7⟩ : ∃ m, (lay2 n (pl.map (·.1))).1.length = m := ⟨_, rfl⟩
    obtain ⟨l8, hl8⟩ : ∃ m, (lay2 n (pl.map (·.1))).2.length = m := ⟨_, rfl⟩
    rw [hl7] at HEQ ⊢
    rw [hl8] at HA3 HN8 ⊢
    have HL7 := Lib.hid hl7
    obtain ⟨S7, hS7⟩ : ∃ S, (lay2 n (pl.map (·.1))).1 = S := ⟨_, rfl⟩
    rw [hS7] at HEQ HRP
    clear ht HB2 HR2 HI2 HP2 HL2 HS3 HCT HLY hl7 hl8 hS7 HLL HLB
    go_upto_region 3 with fail
    refine wp_region_lit ?_
    refine takeL (.int .i64 0) rfl (by go_simp) ?_
    try simp only [Act.put, List.setIfInBounds_toArray, List.set_cons_succ, List.set_cons_zero]
    refine takeL (.bool false) rfl (by go_simp) ?_
    try simp only [Act.put, List.setIfInBounds_toArray, List.set_cons_succ, List.set_cons_zero]
    refine takeL (.bool false) rfl (by go_simp) ?_
    try simp only [Act.put, List.setIfInBounds_toArray, List.set_cons_succ, List.set_cons_zero]
    refine takeL (.slice a7 l7 c7) rfl (by go_simp) ?_
    try simp only [Act.put, List.setIfInBounds_toArray, List.set_cons_succ, List.set_cons_zero]
    refine takeL (.slice a N cap) rfl (by go_simp) ?_
    try simp only [Act.put, List.setIfInBounds_toArray, List.set_cons_succ, List.set_cons_zero]
    refine takeL (.int .i64 t) rfl (by go_simp) ?_
    try simp only [Act.put, List.setIfInBounds_toArray, List.set_cons_succ, List.set_cons_zero]
    refine takeL (.slice (cutA a 0 cap 64) t cap) rfl (exec_upto24 _ _ _ _ _ rfl a N cap t rfl rfl htc) ?_
    try simp only [Act.put, List.setIfInBounds_toArray, List.set_cons_succ, List.set_cons_zero]
    refine wpList_op rfl fun K hK => ?_
    go_simp
    refine (HEQ.out).mono ?_
    rintro e w4 ⟨rfl, hb⟩
    have HB4 := Lib.hid (stay HB3.out hb)
    have HR4 := Lib.hid (HR3.out.below hb HL3.out)
    have HP4 := Lib.hid (HP3.out.below hb)
    have HA4 := Lib.hid (HA3.out.below hb)
    clear hb HB3 HR3 HI3 HP3 HA3 HEQ
    refine hK _ _ ?_
    clear hK K
    try simp only [Act.put, List.setIfInBounds_toArray, List.set_cons_succ, List.set_cons_zero]
    by_cases hd : S7 = L.take t
    · have hdd : decide (S7 = L.take t) = true := decide_eq_true hd
      have HX : Hid (readP n L = some (pl.map (·.1))) := Lib.hid (by rw [HRP.out, if_pos hdd])
      rw [hdd]
      clear hd hdd HRP
      refine takeL (.bool false) rfl (by go_simp) ?_
      try simp only [Act.put, List.setIfInBounds_toArray, List.set_cons_succ, List.set_cons_zero]
      refine takeL (.bool false) rfl (by go_simp) ?_
      try simp only [Act.put, List.setIfInBounds_toArray, List.set_cons_succ, List.set_cons_zero]
      refine wpList_nil ?_
      go_upto_region 5 with fail
      refine wp_region_lit ?_
      refine takeL (.slice ia pn ic) rfl (by go_simp) ?_
      try simp only [Act.put, List.setIfInBounds_toArray, List.set_cons_succ, List.set_cons_zero]
      refine takeL (.slice a8 l8 c8) rfl (by go_simp) ?_
      try simp only [Act.put, List.setIfInBounds_toArray, List.set_cons_succ, List.set_cons_zero]
      refine takeL (.slice a7 l7 c7) rfl (by go_simp) ?_
      try simp only [Act.put, List.setIfInBounds_toArray, List.set_cons_succ, List.set_cons_zero]
      refine takeL (.int .i64 l7) rfl (by go_simp) ?_
      try simp only [Act.put, List.setIfInBounds_toArray, List.set_cons_succ, List.set_cons_zero]
      refine takeL (.slice ia pn ic) rfl (by go_simp) ?_
      try simp only [Act.put, List.setIfInBounds_toArray, List.set_cons_succ, List.set_cons_zero]
      refine wpList_op rfl fun K hK => ?_
      go_simp
      refine (HPA.out _).mono ?_
      rintro e w5 ⟨rfl, rfl⟩
      refine hK _ _ ?_
      clear hK K
      try simp only [Act.put, List.setIfInBounds_toArray, List.set_cons_succ, List.set_cons_zero]
      refine takeL (.agg #[.slice ia pn ic, .slice a8 l8 c8, .int .i64 l7, .int .i64 (parts pn)]) rfl (exec_build _ _ _ _ 36 _ rfl #[(0, .slice ia pn ic), (1, .slice a8 l8 c8), (2, .int .i64 l7), (3, .int .i64 (parts pn))] (by simp only [List.map_toArray, List.map_cons, List.map_nil]; rfl) _ (run_build w4 36 _ _ (built36 _ _ _ _ _ _ _ _))) ?_
      try simp only [Act.put, List.setIfInBounds_toArray, List.set_cons_succ, List.set_cons_zero]
      refine store_all (cs := #[.slice ia pn ic, .slice a8 l8 c8, .int .i64 l7, .int .i64 (parts pn)]) HR4.out rfl info36 (four_one _ _ _ _ _ _ _ _) rfl rfl rfl ?_
      intro w6 hZ hO hlZ
      try simp only [Act.put, List.setIfInBounds_toArray, List.set_cons_succ, List.set_cons_zero]
      have HB6 := Lib.hid (HB4.out.trans (hO.below HB4.out.size fun k hk => Nat.le_of_eq hk.symm))
      have HP6 := Lib.hid (HP4.out.only HR4.out (noIt4 none none 0 0 0 0 0 0) hO)
      have HA6 := Lib.hid (HA4.out.only hO fun b o n c e => HN8.out b (by rw [e]; rfl))
      refine takeL (.bool true) rfl (by go_simp) ?_
      try simp only [Act.put, List.setIfInBounds_toArray, List.set_cons_succ, List.set_cons_zero]
      refine wpList_nil ?_
      go_wp2_with fail
      refine bodyPost_ret (v := .tuple #[.agg #[.slice ia pn ic, .slice a8 l8 c8, .int .i64 l7, .int .i64 (parts pn)], .bool true]) (results_cell_tmp rfl _ _ w.heap.size 0 _ _ _ rfl rfl Try.underlying36 rfl info36 (hZ.all rfl)) rfl ⟨.inr ⟨_, pl, _, HX.out, by rw [HL7.out, HPN.out], HP6.out, HA6.out⟩, HB6.out⟩
    · have hdd : decide (S7 = L.take t) = false := decide_eq_false hd
      have HX : Hid (readP n L = none) := Lib.hid (by rw [HRP.out, hdd]; exact if_neg Bool.false_ne_true)
      rw [hdd]
      clear hd hdd HRP
      refine takeL (.bool true) rfl (by go_simp) ?_
      try simp only [Act.put, List.setIfInBounds_toArray, List.set_cons_succ, List.set_cons_zero]
      refine takeL (.bool true) rfl (by go_simp) ?_
      try simp only [Act.put, List.setIfInBounds_toArray, List.set_cons_succ, List.set_cons_zero]
      refine wpList_nil ?_
      go_upto_region 4 with fail
      refine wp_region_lit ?_
      refine build_g (run_build _ 36 _ _ built36e) rfl ?_
      try simp only [Act.put, List.setIfInBounds_toArray, List.set_cons_succ, List.set_cons_zero]
      refine store_all (cs := #[.slice none 0 0, .slice none 0 0, .int .i64 0, .int .i64 0]) HR4.out rfl info36 (four_one none none 0 0 0 0 0 0) rfl rfl rfl ?_
      intro w6 hZ hO hlZ
      try simp only [Act.put, List.setIfInBounds_toArray, List.set_cons_succ, List.set_cons_zero]
      have HB6 := Lib.hid (HB4.out.trans (hO.below HB4.out.size fun k hk => Nat.le_of_eq hk.symm))
      refine takeL (.bool false) rfl (by go_simp) ?_
      try simp only [Act.put, List.setIfInBounds_toArray, List.set_cons_succ, List.set_cons_zero]
      refine wpList_nil ?_
      go_wp2_with fail
      refine bodyPost_ret (v := .tuple #[.agg #[.slice none 0 0, .slice none 0 0, .int .i64 0, .int .i64 0], .bool false]) (results_cell_tmp rfl _ _ w.heap.size 0 _ _ _ rfl rfl Try.underlying36 rfl info36 (hZ.all rfl)) rfl ⟨.inl ⟨HX.out, rfl⟩, HB6.out⟩

end Go.Proofs.Ytbhaifdhmfmeoaa
