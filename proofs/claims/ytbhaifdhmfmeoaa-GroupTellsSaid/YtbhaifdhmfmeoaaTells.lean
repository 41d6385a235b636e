/- GroupTells' walk. -/
import Derived.Test.YtbhaifdhmfmeoaaRr
import Derived.Test.YtbhaifdhmfmeoaaRows2
import Derived.Test.YtbhaifdhmfmeoaaGrd
namespace Go.Proofs.Ytbhaifdhmfmeoaa
set_option linter.unusedSimpArgs false
set_option linter.unusedVariables false
open Go.RowKit

/-- The reference's Lay, whatever the items. -/
theorem rlay_gen (l : List (It × Value)) (L : List It) (hL : l.map (·.1) = L) (n : Int) (hn : Seq32 n) (sv : Value) (hlen : l.length < 100000) (w : World) (h : ItemsAt w sv l) : Calls Try.prog 13 #[.int .u32 n, sv] w fun e w' => ∃ s7 s8, e = .returned (.agg #[s7, s8, .bool (mayBe L)]) ∧ Two w w' s7 s8 (layR n L) := by
  cases hm : mayBe L
  · refine (rlay_no l L hL hm n sv hlen w h).mono ?_
    rintro e w' ⟨rfl, hb⟩
    refine ⟨_, _, rfl, ?_⟩
    unfold layR
    rw [hm]
    exact ⟨OwnS.nil _ _, OwnN.nil _ _, hb⟩
  · refine (rlay_yes l L hL hm n hn sv w h).mono ?_
    rintro e w' ⟨s7, s8, rfl, ht⟩
    refine ⟨_, _, rfl, ?_⟩
    unfold layR
    rw [hm]
    exact ht
/-- The program's, in the same words. -/
theorem lay_alike (l : List (It × Value)) (L : List It) (hL : l.map (·.1) = L) (n : Int) (hn : Seq32 n) (sv : Value) (hlen : l.length < 100000) (w : World) (h : ItemsAt w sv l) : Calls Try.prog 12 #[.int .u32 n, sv] w fun e w' => ∃ s7 s8, e = .returned (.tuple #[s7, s8, .int .i64 (if mayBe L then 0 else 1)]) ∧ Two w w' s7 s8 (layR n L) := by
  cases hm : mayBe L
  · refine (lay_no l L hL hm n sv hlen w h).mono ?_
    rintro e w' ⟨rfl, hb⟩
    refine ⟨_, _, rfl, ?_⟩
    unfold layR
    rw [hm]
    exact ⟨OwnS.nil _ _, OwnN.nil _ _, hb⟩
  · refine (lay_yes l L hL hm n hn sv w h).mono ?_
    rintro e w' ⟨s7, s8, rfl, ht⟩
    refine ⟨_, _, rfl, ?_⟩
    unfold layR
    rw [hm]
    exact ht
def rdI (n : Int) : Option (List It) → List Int
  | none => []
  | some l => (lay2 n l).2
/-- What both Reads tell, in one form. -/
structure Rd4 (n : Int) (r : Option (List It)) (w' : World) (iv av : Value) (pl : List (It × Value)) (il : List Int) : Prop where
  its : ItemsAt w' iv pl
  at2 : IntsAt w' av il
  pl : pl.map (·.1) = r.getD []
  il : il = rdI n r
def rdN (n : Int) : Option (List It) → Int
  | none => 0
  | some l => (lay2 n l).1.length
def rdP : Option (List It) → Int
  | none => 0
  | some l => parts l.length
theorem ReadOut.four {n : Int} {r : Option (List It)} {e : Ending} {w' : World} (h : ReadOut n r e w') : ∃ iv av pl il, e = .returned (.tuple #[.agg #[iv, av, .int .i64 (rdN n r), .int .i64 (rdP r)], .bool r.isSome]) ∧ Rd4 n r w' iv av pl il := by
  rcases h with ⟨rfl, rfl⟩ | ⟨iv, pl, av, rfl, rfl, h1, h2⟩
  · exact ⟨_, _, [], [], rfl, ItemsAt.nil _ _ _, IntsAt.nil _ _ _, rfl, rfl⟩
  · exact ⟨iv, av, pl, _, by simp [rdN, rdP], h1, h2, rfl, rfl⟩
theorem RReadOut.four {n : Int} {r : Option (List It)} {e : Ending} {w' : World} (h : RReadOut n r e w') : ∃ iv av pl il, e = .returned (.agg #[iv, av, .int .i64 (rdN n r), .int .i64 (rdP r), .bool r.isSome]) ∧ Rd4 n r w' iv av pl il := by
  rcases h with ⟨rfl, rfl⟩ | ⟨iv, pl, av, rfl, rfl, h1, h2⟩
  · exact ⟨_, _, [], [], rfl, ItemsAt.nil _ _ _, IntsAt.nil _ _ _, rfl, rfl⟩
  · exact ⟨iv, av, pl, _, by simp [rdN, rdP], h1, h2, rfl, rfl⟩
theorem Rd4.short {n : Int} {r : Option (List It)} {w' : World} {iv av : Value} {pl : List (It × Value)} {il : List Int} (h : Rd4 n r w' iv av pl il) (hr : ∀ l, r = some l → mayBe l = true) : pl.length ≤ 64 ∧ il.length ≤ 64 := by
  have e := congrArg List.length h.pl
  rw [List.length_map] at e
  cases r with
  | none => simp only [Option.getD_none, List.length_nil] at e; have := h.il; simp only [rdI] at this; subst this; simp; omega
  | some l =>
    have h2 := (mayBe_iff.1 (hr l rfl)).2.1
    have := h.il
    simp only [rdI] at this
    rw [this, lay2_at]
    simp only [Option.getD_some] at e
    omega
theorem layR_len {n : Int} {L : List It} : (layR n L).1.length ≤ 200 ∧ (layR n L).2.length ≤ 200 := by
  unfold layR
  cases hm : mayBe L
  · simp
  · simp only [if_true]
    have h2 := (mayBe_iff.1 hm).2.1
    have h3 := (parts_pos hm).2
    rw [lay2_length, lay2_at]
    have := blocks_le (marks L)
    rw [List.length_map] at this
    omega
/-- What lies in memory when all has been asked. -/
structure TV (w wc : World) (av tv s7 s8 r7 r8 iv dv jv kv : Value) (b11 b12 b14 : Nat) (a am : List (It × Value)) (X : List (List Int)) (I : List Int) (pl ql : List (It × Value)) (il kl : List Int) (N p : Int) (m ok : Bool) : Prop where
  bel : Below w.heap.size w wc
  ia : ItemsAt wc av a
  it : ItemsAt wc tv am
  fs7 : SecsAt wc s7 X
  fr7 : SecsAt wc r7 X
  fs8 : IntsAt wc s8 I
  fr8 : IntsAt wc r8 I
  v1 : Blk wc b11 [r7, r8, .bool m]
  v2 : Blk wc b12 [iv, dv, .int .i64 N, .int .i64 p]
  v3 : Blk wc b14 [jv, kv, .int .i64 N, .int .i64 p, .bool ok]
  pi : ItemsAt wc iv pl
  qi : ItemsAt wc jv ql
  pd : IntsAt wc dv il
  qd : IntsAt wc kv kl
theorem TV.below {w wc w2 : World} {av tv s7 s8 r7 r8 iv dv jv kv : Value} {b11 b12 b14 : Nat} {a am : List (It × Value)} {X : List (List Int)} {I : List Int} {pl ql : List (It × Value)} {il kl : List Int} {N p : Int} {m ok : Bool} (h : TV w wc av tv s7 s8 r7 r8 iv dv jv kv b11 b12 b14 a am X I pl ql il kl N p m ok) (hb : Below wc.heap.size wc w2) : TV w w2 av tv s7 s8 r7 r8 iv dv jv kv b11 b12 b14 a am X I pl ql il kl N p m ok :=
  ⟨stay h.bel hb, h.ia.below hb, h.it.below hb, h.fs7.below hb, h.fr7.below hb, h.fs8.below hb, h.fr8.below hb, h.v1.below hb h.v1.lt, h.v2.below hb h.v2.lt, h.v3.below hb h.v3.lt, h.pi.below hb, h.qi.below hb, h.pd.below hb, h.qd.below hb⟩
theorem tells_bad (a : List (It × Value)) (n : Int) (s : List (List Int)) (v0 v2 : Value) (na : a.length ≤ 9223372036854775807) (ns : s.length ≤ 9223372036854775807) (hf : fair (a.map (·.1)) = false ∨ 120 < s.length) (w : World) (ha : ItemsAt w v0 a) (hs : SecsAt w v2 s) : Calls Try.prog 3 #[v0, .int .u32 n, v2] w fun e w' => e = .returned (.bool true) ∧ Below w.heap.size w w' := by
  have HFA := Lib.hid (fair_any a a.length rfl na v0 w ha)
  have HWK := Lib.hid wakes_any
  obtain ⟨sa, sc, hsv, -⟩ := hs
  obtain ⟨N, hN⟩ : ∃ N, s.length = N := ⟨_, rfl⟩
  rw [hN] at hf hsv ns
  cases h1 : fair (a.map (·.1))
  · rw [h1] at HFA
    clear ha na hf h1
    subst hsv
    go_enter Try.func3, Try.ntmps3
    go_wp2_with fail
    refine HFA.out.mono ?_
    rintro e w2 ⟨rfl, rfl⟩
    go_wp2_with fail
    refine (HWK.out _).mono ?_
    rintro e w3 ⟨rfl, hb⟩
    have HB := Lib.hid hb
    clear hb
    go_wp2_with fail
    go_ret
    exact ⟨rfl, HB.out⟩
  · rw [h1] at HFA
    have h120 : 120 < N := by
      rcases hf with hf | hf
      · rw [h1] at hf; cases hf
      · exact hf
    have d1 : decide (120 < (N : Int)) = true := decide_eq_true (by omega)
    clear ha na hf h1
    subst hsv
    go_enter Try.func3, Try.ntmps3
    go_wp2_with fail
    refine HFA.out.mono ?_
    rintro e w2 ⟨rfl, rfl⟩
    go_wp2_with fail
    refine (HWK.out _).mono ?_
    rintro e w3 ⟨rfl, hb⟩
    have HB := Lib.hid hb
    clear hb
    go_wp2_with fail
    go_ret
    exact ⟨rfl, HB.out⟩
set_option maxRecDepth 100000 in
set_option maxHeartbeats 4000000 in
theorem tells_any (a : List (It × Value)) (n : Int) (s : List (List Int)) (hn : 0 ≤ n ∧ n < 4294967296) (v0 v2 : Value) (na : a.length ≤ 9223372036854775807) (ns : s.length ≤ 9223372036854775807) (w : World) (ha : ItemsAt w v0 a) (hs : SecsAt w v2 s) : Calls Try.prog 3 #[v0, .int .u32 n, v2] w fun e w' => e = .returned (.bool true) ∧ Below w.heap.size w w' := by
  cases hf : fair (a.map (·.1))
  · exact tells_bad a n s v0 v2 na ns (.inl hf) w ha hs
  by_cases h120 : 120 < s.length
  · exact tells_bad a n s v0 v2 na ns (.inr h120) w ha hs
  have HFA := Lib.hid (fair_any a a.length rfl na v0 w ha)
  rw [hf] at HFA
  have hla := fair_len hf
  rw [List.length_map] at hla
  have hbl : ∀ x ∈ a, x.1.blk.bytes.length ≤ 300 := by
    have h := hf
    unfold fair at h
    rw [Bool.and_eq_true, List.all_eq_true] at h
    intro x hx
    exact of_decide_eq_true (h.1 x.1 (List.mem_map.2 ⟨x, hx, rfl⟩))
  have HSEQ : Hid (Seq32 n) := Lib.hid (seq_ok hn)
  have HWK := Lib.hid wakes_any
  obtain ⟨A, hA⟩ : ∃ A, a.map (·.1) = A := ⟨_, rfl⟩
  have HAE := Lib.hid hA
  have HOW := Lib.hid (own_any a hla hbl v0 w ha)
  have HLR := Lib.hid fun w h => rlay_gen a A hA n HSEQ.out v0 (by omega) w h
  have HGD : Hid (GoodC v0 a A) := Lib.hid (fun w h => hA ▸ rgoodG_any a a.length rfl v0 (by omega) w h)
  have HLN := Lib.hid hla
  have HIA := Lib.hid ha
  have HSS := Lib.hid hs
  obtain ⟨N, hN⟩ : ∃ N, s.length = N := ⟨_, rfl⟩
  have HN := Lib.hid hN
  have hN120 : N ≤ 120 := by omega
  obtain ⟨sa, sc, hsv, -⟩ := id hs
  rw [hN] at hsv
  subst hsv
  have d1 : decide (120 < (N : Int)) = false := decide_eq_false (by omega)
  clear ha hs na ns hf h120 hla hbl hA hN
  go_enter Try.func3, Try.ntmps3
  go_wp2_with fail
  refine HFA.out.mono ?_
  rintro e w1 ⟨rfl, rfl⟩
  clear HFA
  go_wp2_with fail
  refine HOW.out.mono ?_
  rintro e w2 ⟨tv, am, rfl, hma, hit, hb⟩
  have HMA : Hid (am.map (·.1) = A) := Lib.hid (by rw [hma, HAE.out])
  have HIT := Lib.hid hit
  have HB := Lib.hid hb
  have HML : Hid (am.length ≤ 100) := Lib.hid (by have := congrArg List.length hma; rw [List.length_map, List.length_map] at this; have := HLN.out; omega)
  clear hma hit hb HOW
  obtain ⟨ta, tc, htv⟩ := items_one HIT.out
  obtain ⟨mn, hmn⟩ : ∃ m, am.length = m := ⟨_, rfl⟩
  rw [hmn] at htv
  subst htv
  clear hmn
  have HLP := Lib.hid fun w h => lay_alike am A HMA.out n HSEQ.out (.slice ta mn tc) (by have := HML.out; omega) w h
  go_wp2_with fail
  refine (HLP.out _ HIT.out).mono ?_
  rintro e w3 ⟨s7, s8, rfl, ht⟩
  have HT3 := Lib.hid ht
  have HIT3 := Lib.hid (HIT.out.below ht.b)
  have HB3 := Lib.hid (stay HB.out ht.b)
  clear ht HIT HB HLP
  obtain ⟨a7, c7, hv7, -⟩ := HT3.out.s.len
  obtain ⟨a8, c8, hv8⟩ := HT3.out.a.ints.form
  obtain ⟨m7, hm7⟩ : ∃ m, (layR n A).1.length = m := ⟨_, rfl⟩
  obtain ⟨m8, hm8⟩ : ∃ m, (layR n A).2.length = m := ⟨_, rfl⟩
  rw [hm7] at hv7
  rw [hm8] at hv8
  have HM7 := Lib.hid hm7
  have HM8 := Lib.hid hm8
  subst hv7
  subst hv8
  obtain ⟨e0, he0⟩ : ∃ e : Int, (if mayBe A = true then 0 else 1) = e := ⟨_, rfl⟩
  have HE0 : Hid ((e0 = 0 ∧ mayBe A = true) ∨ (e0 = 1 ∧ mayBe A = false)) := Lib.hid (by rw [← he0]; cases mayBe A <;> simp)
  rw [he0]
  clear hm7 hm8 he0
  go_upto_region 5 with fail
  refine wp_region_lit ?_
  refine takeL (.int .u32 n) rfl (by go_simp) ?_
  try simp only [Act.put, List.setIfInBounds_toArray, List.set_cons_succ, List.set_cons_zero]
  refine takeL (v0) rfl (by go_simp) ?_
  try simp only [Act.put, List.setIfInBounds_toArray, List.set_cons_succ, List.set_cons_zero]
  refine wpList_op rfl fun K hK => ?_
  go_simp
  refine (HLR.out _ (HIA.out.below HB3.out)).mono ?_
  rintro e w4 ⟨r7, r8, rfl, ht⟩
  have HT4 := Lib.hid ht
  have HIT4 := Lib.hid (HIT3.out.below ht.b)
  have HS4 := Lib.hid (HT3.out.s.below ht.b).secs
  have HA4 := Lib.hid (HT3.out.a.below ht.b).ints
  have HB4 := Lib.hid (stay HB3.out ht.b)
  clear ht HIT3 HB3 HT3
  refine hK _ _ ?_
  clear hK K
  try simp only [Act.put, List.setIfInBounds_toArray, List.set_cons_succ, List.set_cons_zero]
  obtain ⟨x7, y7, hx7, -⟩ := HT4.out.s.len
  obtain ⟨x8, y8, hx8⟩ := HT4.out.a.ints.form
  rw [HM7.out] at hx7
  rw [HM8.out] at hx8
  subst hx7
  subst hx8
  refine alloc_g zero33 rfl ?_
  intro w5 hA hb hl
  try simp only [Act.put, List.setIfInBounds_toArray, List.set_cons_succ, List.set_cons_zero]
  refine store_all (cs := #[.slice x7 m7 y7, .slice x8 m8 y8, .bool (mayBe A)]) hA rfl info33 (by simp [Value.oneCell']) rfl rfl rfl ?_
  intro w6 hD hO hlD
  try simp only [Act.put, List.setIfInBounds_toArray, List.set_cons_succ, List.set_cons_zero]
  have hbb : Below w4.heap.size w4 w6 := hb.trans (hO.below hb.size fun k hk => Nat.le_of_eq hk.symm)
  have HV6 := Lib.hid hD
  have HIT6 := Lib.hid (HIT4.out.below hbb)
  have HS6 := Lib.hid (HS4.out.below hbb)
  have HA6 := Lib.hid (HA4.out.below hbb)
  have HR6 := Lib.hid (HT4.out.s.below hbb).secs
  have HQ6 := Lib.hid (HT4.out.a.below hbb).ints
  have HB6 := Lib.hid (stay HB4.out hbb)
  generalize w4.heap.size = b11 at *
  clear hA hb hl hD hO hlD hbb HIT4 HS4 HA4 HT4 HB4
  obtain ⟨mA, hmA⟩ : ∃ m, mayBe A = m := ⟨_, rfl⟩
  rw [hmA] at HV6 HE0 ⊢
  clear hmA
  refine wpList_nil ?_
  have HRN := Lib.hid fun w al cl h => readG_any n HSEQ.out s N HN.out (by omega) (.slice al N cl) w h
  go_upto_region 6 with fail
  refine wp_region_lit ?_
  refine takeL (.int .u32 n) rfl (by go_simp) ?_
  try simp only [Act.put, List.setIfInBounds_toArray, List.set_cons_succ, List.set_cons_zero]
  refine wpList_run (.slice (some ⟨w6.heap.size, 0, none⟩) 0 0) (w6.alloc (.cells #[] 50)) rfl (by go_simp) ?_
  try simp only [Act.put, List.setIfInBounds_toArray, List.set_cons_succ, List.set_cons_zero]
  have hbl : Below w6.heap.size w6 (w6.alloc (.cells #[] 50)) := (Below.refl _ _).alloc (Nat.le_refl _) _
  have HO7 := Lib.hid (lit0S w6 w6.heap.size (Nat.le_refl _))
  have HB7 := Lib.hid (stay HB6.out hbl)
  have HC7 := Lib.hid hbl
  have HS7 : Hid (w6.heap.size ≤ (w6.alloc (.cells #[] 50)).heap.size) := Lib.hid hbl.size
  clear hbl
  generalize w6.alloc (.cells #[] 50) = w7 at *
  refine takeL (.slice sa N sc) rfl (by go_simp) ?_
  try simp only [Act.put, List.setIfInBounds_toArray, List.set_cons_succ, List.set_cons_zero]
  refine app_LS HO7.out HS7.out (HSS.out.below HB7.out) (by rw [HN.out]; simp only [List.length_nil]; omega) rfl rfl rfl ?_
  intro cv w8 ho8 hg8
  try simp only [Act.put, List.setIfInBounds_toArray, List.set_cons_succ, List.set_cons_zero]
  rw [List.nil_append] at ho8
  have hb8 : Below w6.heap.size w6 w8 := HC7.out.trans (grown_below hg8 HS7.out fun k hk => (HO7.out.lt k hk).1)
  have HV8 := Lib.hid (HV6.out.below hb8 HV6.out.lt)
  have HIT8 := Lib.hid (HIT6.out.below hb8)
  have HS8 := Lib.hid (HS6.out.below hb8)
  have HA8 := Lib.hid (HA6.out.below hb8)
  have HR8 := Lib.hid (HR6.out.below hb8)
  have HQ8 := Lib.hid (HQ6.out.below hb8)
  have HB8 := Lib.hid (stay HB6.out hb8)
  obtain ⟨al, cl, hcv, -⟩ := ho8.len
  rw [HN.out] at hcv
  subst hcv
  have HCS := Lib.hid ho8.secs
  clear ho8 hg8 hb8 HO7 HB7 HC7 HS7 HV6 HIT6 HS6 HA6 HR6 HQ6 HB6
  refine wpList_op rfl fun K hK => ?_
  go_simp
  refine (HRN.out _ _ _ HCS.out).mono ?_
  rintro e w9 ⟨hro, hb⟩
  obtain ⟨iv, dv, pl, il, rfl, h4⟩ := hro.four
  have HV9 := Lib.hid (HV8.out.below hb HV8.out.lt)
  have HIT9 := Lib.hid (HIT8.out.below hb)
  have HS9 := Lib.hid (HS8.out.below hb)
  have HA9 := Lib.hid (HA8.out.below hb)
  have HR9 := Lib.hid (HR8.out.below hb)
  have HQ9 := Lib.hid (HQ8.out.below hb)
  have HB9 := Lib.hid (stay HB8.out hb)
  have HF9 := Lib.hid h4
  clear hro h4 hb HV8 HIT8 HS8 HA8 HR8 HQ8 HB8 HCS HRN
  refine hK _ _ ?_
  clear hK K
  try simp only [Act.put, List.setIfInBounds_toArray, List.set_cons_succ, List.set_cons_zero]
  have HSHORT := Lib.hid (HF9.out.short fun l h => (readP_some h).1)
  obtain ⟨rn, hrn⟩ : ∃ x, rdN n (readP n s) = x := ⟨_, rfl⟩
  obtain ⟨rp, hrp⟩ : ∃ x, rdP (readP n s) = x := ⟨_, rfl⟩
  obtain ⟨ro, hro⟩ : ∃ x, (readP n s).isSome = x := ⟨_, rfl⟩
  have HRR := Lib.hid fun w h => rread_any n HSEQ.out s N HN.out (by omega) (.slice sa N sc) w h
  rw [hrn, hrp, hro]
  have HRN := Lib.hid hrn
  have HRP := Lib.hid hrp
  have HRO := Lib.hid hro
  clear hrn hrp hro
  obtain ⟨ia, ic, hiv⟩ := items_one HF9.out.its
  obtain ⟨da, dc, hdv⟩ := HF9.out.at2.form
  obtain ⟨pn, hpn⟩ : ∃ m, pl.length = m := ⟨_, rfl⟩
  obtain ⟨dn, hdn⟩ : ∃ m, il.length = m := ⟨_, rfl⟩
  rw [hpn] at hiv
  rw [hdn] at hdv
  subst hiv
  subst hdv
  clear hpn hdn
  refine takeL (.tuple #[.agg #[.slice ia pn ic, .slice da dn dc, .int .i64 rn, .int .i64 rp], .bool ro]) rfl (by go_simp) ?_
  try simp only [Act.put, List.setIfInBounds_toArray, List.set_cons_succ, List.set_cons_zero]
  refine takeL (.agg #[.slice ia pn ic, .slice da dn dc, .int .i64 rn, .int .i64 rp]) rfl (by go_simp) ?_
  try simp only [Act.put, List.setIfInBounds_toArray, List.set_cons_succ, List.set_cons_zero]
  refine takeL (.bool ro) rfl (by go_simp) ?_
  try simp only [Act.put, List.setIfInBounds_toArray, List.set_cons_succ, List.set_cons_zero]
  refine alloc_g zero36 rfl ?_
  intro w10 hA hb hl
  try simp only [Act.put, List.setIfInBounds_toArray, List.set_cons_succ, List.set_cons_zero]
  refine store_all (cs := #[.slice ia pn ic, .slice da dn dc, .int .i64 rn, .int .i64 rp]) hA rfl info36 (four_one _ _ _ _ _ _ _ _) rfl rfl rfl ?_
  intro w11 hD hO hlD
  try simp only [Act.put, List.setIfInBounds_toArray, List.set_cons_succ, List.set_cons_zero]
  have hbb : Below w9.heap.size w9 w11 := hb.trans (hO.below hb.size fun k hk => Nat.le_of_eq hk.symm)
  have HV11 := Lib.hid (HV9.out.below hbb HV9.out.lt)
  have HIT11 := Lib.hid (HIT9.out.below hbb)
  have HS11 := Lib.hid (HS9.out.below hbb)
  have HA11 := Lib.hid (HA9.out.below hbb)
  have HR11 := Lib.hid (HR9.out.below hbb)
  have HQ11 := Lib.hid (HQ9.out.below hbb)
  have HB11 := Lib.hid (stay HB9.out hbb)
  have HI11 := Lib.hid (HF9.out.its.below hbb)
  have HD11 := Lib.hid (HF9.out.at2.below hbb)
  have HPE := Lib.hid HF9.out.pl
  have HIE := Lib.hid HF9.out.il
  have HW11 := Lib.hid hD
  generalize w9.heap.size = b12 at *
  clear hA hb hl hD hO hlD hbb HV9 HIT9 HS9 HA9 HR9 HQ9 HB9 HF9
  refine takeL (.bool ro) rfl (by go_simp) ?_
  try simp only [Act.put, List.setIfInBounds_toArray, List.set_cons_succ, List.set_cons_zero]
  refine wpList_nil ?_
  go_upto_region 7 with fail
  refine wp_region_lit ?_
  refine takeL (.int .u32 n) rfl (by go_simp) ?_
  try simp only [Act.put, List.setIfInBounds_toArray, List.set_cons_succ, List.set_cons_zero]
  refine takeL (.slice sa N sc) rfl (by go_simp) ?_
  try simp only [Act.put, List.setIfInBounds_toArray, List.set_cons_succ, List.set_cons_zero]
  refine wpList_op rfl fun K hK => ?_
  go_simp
  refine (HRR.out _ (HSS.out.below HB11.out)).mono ?_
  rintro e w12 ⟨hro, hb⟩
  obtain ⟨jv, kv, ql, kl, rfl, h4⟩ := hro.four
  have HVC := Lib.hid (HV11.out.below hb HV11.out.lt)
  have HITC := Lib.hid (HIT11.out.below hb)
  have HSC := Lib.hid (HS11.out.below hb)
  have HAC := Lib.hid (HA11.out.below hb)
  have HRC := Lib.hid (HR11.out.below hb)
  have HQC := Lib.hid (HQ11.out.below hb)
  have HBC := Lib.hid (stay HB11.out hb)
  have HIC := Lib.hid (HI11.out.below hb)
  have HDC := Lib.hid (HD11.out.below hb)
  have HWC := Lib.hid (HW11.out.below hb HW11.out.lt)
  have HF12 := Lib.hid h4
  clear hro h4 hb HV11 HIT11 HS11 HA11 HR11 HQ11 HB11 HI11 HD11 HW11 HRR
  refine hK _ _ ?_
  clear hK K
  try simp only [Act.put, List.setIfInBounds_toArray, List.set_cons_succ, List.set_cons_zero]
  have HSHORT2 := Lib.hid (HF12.out.short fun l h => (readP_some h).1)
  rw [HRN.out, HRP.out, HRO.out]
  obtain ⟨ja, jc, hjv⟩ := items_one HF12.out.its
  obtain ⟨ka, kc, hkv⟩ := HF12.out.at2.form
  obtain ⟨jn, hjn⟩ : ∃ m, ql.length = m := ⟨_, rfl⟩
  obtain ⟨kn, hkn⟩ : ∃ m, kl.length = m := ⟨_, rfl⟩
  rw [hjn] at hjv
  rw [hkn] at hkv
  subst hjv
  subst hkv
  clear hjn hkn
  refine alloc_g zero40 rfl ?_
  intro w13 hA hb hl
  try simp only [Act.put, List.setIfInBounds_toArray, List.set_cons_succ, List.set_cons_zero]
  refine store_all (cs := #[.slice ja jn jc, .slice ka kn kc, .int .i64 rn, .int .i64 rp, .bool ro]) hA rfl info40 (five_one _ _ _ _ _ _ _ _ _) rfl rfl rfl ?_
  intro w14 hD hO hlD
  try simp only [Act.put, List.setIfInBounds_toArray, List.set_cons_succ, List.set_cons_zero]
  have hbb : Below w12.heap.size w12 w14 := hb.trans (hO.below hb.size fun k hk => Nat.le_of_eq hk.symm)
  have HSI : Hid (sameIts (pl.map (·.1)) (ql.map (·.1)) = true) := Lib.hid (sameIts_yes (by rw [HPE.out, HF12.out.pl]))
  have HSK : Hid (decide (il = kl) = true) := Lib.hid (decide_eq_true (by rw [HIE.out, HF12.out.il]))
  have HSA : Hid (sameIts (am.map (·.1)) (a.map (·.1)) = true) := Lib.hid (sameIts_yes (by rw [HMA.out, HAE.out]))
  have HT14 : Hid (TV w w14 v0 (.slice ta mn tc) (.slice a7 m7 c7) (.slice a8 m8 c8) (.slice x7 m7 y7) (.slice x8 m8 y8) (.slice ia pn ic) (.slice da dn dc) (.slice ja jn jc) (.slice ka kn kc) b11 b12 w12.heap.size a am (layR n A).1 (layR n A).2 pl ql il kl rn rp mA ro) := Lib.hid
    ⟨stay HBC.out hbb, HIA.out.below (stay HBC.out hbb), HITC.out.below hbb, HSC.out.below hbb, HRC.out.below hbb, HAC.out.below hbb, HQC.out.below hbb, HVC.out.below hbb HVC.out.lt, HWC.out.below hbb HWC.out.lt, hD, HIC.out.below hbb, HF12.out.its.below hbb, HDC.out.below hbb, HF12.out.at2.below hbb⟩
  generalize w12.heap.size = b14 at *
  clear hA hb hl hD hO hlD hbb HVC HITC HSC HAC HRC HQC HBC HIC HDC HWC HF12 HPE HIE
  have HL := layR_len (n := n) (L := A)
  have HLL := Lib.hid HL
  clear HL
  have HZ := Lib.hid fun w h => sizeG_any am A HMA.out (.slice ta mn tc) (by have := HML.out; omega) w h
  have HZR := Lib.hid fun w h => rsize_of a A HAE.out (by have := HLN.out; omega) v0 HGD.out w h
  have HPG := Lib.hid fun w h => partsG_any am A HMA.out (.slice ta mn tc) (by have := HML.out; omega) w h
  have HPR := Lib.hid fun w h => rparts_of a A HAE.out v0 HGD.out w h
  obtain ⟨z, hz⟩ : ∃ z, sizeOf' A = z := ⟨_, rfl⟩
  obtain ⟨p, hp⟩ : ∃ p, partsN A = p := ⟨_, rfl⟩
  rw [hz] at HZ HZR
  rw [hp] at HPG HPR
  clear hz hp
  go_wp2_with fail
  refine (HZ.out _ HT14.out.it).mono ?_
  rintro e wa ⟨rfl, hb⟩
  have HTa := Lib.hid (HT14.out.below hb)
  clear hb HT14 HZ
  go_wp2_with fail
  refine (HZR.out _ HTa.out.ia).mono ?_
  rintro e wb ⟨rfl, hb⟩
  have HTb := Lib.hid (HTa.out.below hb)
  clear hb HTa HZR
  go_wp2_with fail
  refine (HPG.out _ HTb.out.it).mono ?_
  rintro e wc ⟨rfl, hb⟩
  have HTc := Lib.hid (HTb.out.below hb)
  clear hb HTb HPG
  go_wp2_with fail
  refine (HPR.out _ HTc.out.ia).mono ?_
  rintro e wd ⟨rfl, hb⟩
  have HTd := Lib.hid (HTc.out.below hb)
  clear hb HTc HPR
  have q0 := HTd.out.v1.cell (i := 0) rfl
  go_wp2_with fail
  refine (sectors_any _ _ _ _ (by have := HLL.out; omega) (by have := HLL.out; omega) _ HTd.out.fs7 HTd.out.fr7).mono ?_
  rintro e we ⟨rfl, hb⟩
  have HTe := Lib.hid (HTd.out.below hb)
  have dq : decide ((layR n A).1 = (layR n A).1) = true := decide_eq_true rfl
  rw [dq]
  clear hb HTd q0 dq
  have q0 := HTe.out.v1.cell (i := 1) rfl
  go_wp2_with fail
  refine (ints_any _ _ (by have := HLL.out; omega) (by have := HLL.out; omega) _ _ _ HTe.out.fs8 HTe.out.fr8).mono ?_
  rintro e wf ⟨rfl, hb⟩
  have HTf := Lib.hid (HTe.out.below hb)
  have dq : decide ((layR n A).2 = (layR n A).2) = true := decide_eq_true rfl
  rw [dq]
  clear hb HTe q0 dq
  have q0 := HTf.out.v1.cell (i := 2) rfl
  have q1 := HTf.out.v2.cell (i := 0) rfl
  have q2 := HTf.out.v3.cell (i := 0) rfl
  have q4 := HTf.out.v3.cell (i := 4) rfl
  have he4 : (ro == ro) = true := by simp
  have hE := HE0.out
  clear HE0
  rcases hE with ⟨rfl, rfl⟩ | ⟨rfl, rfl⟩
  all_goals
    go_wp2_with fail
    refine (items_any _ _ _ _ (by have := HSHORT.out; omega) (by have := HSHORT2.out; omega) _ HTf.out.pi HTf.out.qi).mono ?_
    rintro e wg ⟨rfl, hb⟩
    have HTg := Lib.hid (HTf.out.below hb)
    rw [HSI.out]
    clear hb HTf q0 q1 q2 q4
    have q1 := HTg.out.v2.cell (i := 1) rfl
    have q2 := HTg.out.v3.cell (i := 1) rfl
    go_wp2_with fail
    refine (ints_any _ _ (by have := HSHORT.out; omega) (by have := HSHORT2.out; omega) _ _ _ HTg.out.pd HTg.out.qd).mono ?_
    rintro e wh ⟨rfl, hb⟩
    have HTh := Lib.hid (HTg.out.below hb)
    rw [HSK.out]
    clear hb HTg q1 q2
    have q1 := HTh.out.v2.cell (i := 2) rfl
    have q2 := HTh.out.v3.cell (i := 2) rfl
    have q3 := HTh.out.v2.cell (i := 3) rfl
    have q4 := HTh.out.v3.cell (i := 3) rfl
    go_wp2_with fail
    refine (items_any _ _ _ _ (by have := HML.out; omega) (by have := HLN.out; omega) _ HTh.out.it HTh.out.ia).mono ?_
    rintro e wi ⟨rfl, hb⟩
    have HTi := Lib.hid (HTh.out.below hb)
    rw [HSA.out]
    clear hb HTh q1 q2 q3 q4
    go_wp2_with fail
    refine (HWK.out _).mono ?_
    rintro e wj ⟨rfl, hb⟩
    have HBJ := Lib.hid (stay HTi.out.bel hb)
    clear hb HTi
    go_wp2_with fail
    go_ret
    exact ⟨rfl, HBJ.out⟩

end Go.Proofs.Ytbhaifdhmfmeoaa
