/- GroupSizes' walk. -/
import Derived.Test.YtbhaifdhmfmeoaaDots
namespace Go.Proofs.Ytbhaifdhmfmeoaa
set_option linter.unusedSimpArgs false
set_option linter.unusedVariables false
open Go.RowKit

theorem atOf_at {p : List It} {c i : Nat} {x : It} (h : p[i]? = some x) : ∃ v : Int, (atOf c p)[i]? = some v ∧ (x.has = false → v = -1) ∧ (x.has = true → (c : Int) ≤ v ∧ v < c + blocks (marks p)) := by
  induction p generalizing c i with
  | nil => simp at h
  | cons y r ih =>
    have hb : blocks (marks (y :: r)) = (if y.has then 1 else 0) + blocks (marks r) := rfl
    cases i with
    | zero =>
      simp only [List.getElem?_cons_zero, Option.some.injEq] at h
      subst h
      unfold atOf
      cases k : y.has
      · exact ⟨-1, rfl, fun _ => rfl, fun h => by cases h⟩
      · refine ⟨c, rfl, fun h => (by cases h), fun _ => ⟨Int.le_refl _, ?_⟩⟩
        rw [hb, k]
        simp
        omega
    | succ i =>
      simp only [List.getElem?_cons_succ] at h
      unfold atOf
      cases k : y.has
      · obtain ⟨v, h1, h2, h3⟩ := ih (c := c) h
        refine ⟨v, by simpa using h1, h2, fun hh => ?_⟩
        rw [hb, k]
        simpa using h3 hh
      · obtain ⟨v, h1, h2, h3⟩ := ih (c := c + 1) h
        refine ⟨v, by simpa using h1, h2, fun hh => ?_⟩
        have := h3 hh
        rw [hb, k]
        simp only [if_true]
        omega
theorem layTo_atv {n : Int} {l : List It} {k i : Nat} {x : It} (h : (l.take (24 * k))[i]? = some x) : ∃ v : Int, (layTo n l k).2[i]? = some v ∧ (x.has = false → v = -1) ∧ (x.has = true → 1 ≤ v ∧ v < (layTo n l k).1.length) := by
  induction k with
  | zero => simp at h
  | succ k ih =>
    have hl := layTo_succ n l k
    have h2 : (layTo n l (k + 1)).2 = (layTo n l k).2 ++ atOf ((layTo n l k).1.length + 1) (chunk l k) := by
      rw [layTo, stepPart, foldl_step]
      simp
    rw [take_chunk] at h
    have hlen := layTo_at n l k
    by_cases hi : i < (l.take (24 * k)).length
    · rw [List.getElem?_append_left hi] at h
      obtain ⟨v, a, b, c⟩ := ih h
      refine ⟨v, by rw [h2, List.getElem?_append_left (by omega)]; exact a, b, fun hh => ?_⟩
      have := c hh
      rw [hl, List.length_append]
      omega
    · rw [List.getElem?_append_right (by omega)] at h
      obtain ⟨v, a, b, c⟩ := atOf_at (c := (layTo n l k).1.length + 1) h
      refine ⟨v, by rw [h2, List.getElem?_append_right (by omega), hlen]; exact a, b, fun hh => ?_⟩
      have := c hh
      rw [hl, List.length_append, partOf_length]
      omega
theorem lay2_atv {n : Int} {l : List It} {i : Nat} {x : It} (h : l[i]? = some x) : ∃ v : Int, (lay2 n l).2[i]? = some v ∧ (x.has = false → v = -1) ∧ (x.has = true → 1 ≤ v ∧ v < (lay2 n l).1.length) := layTo_atv (by rw [List.take_of_length_le (parts_le _)]; exact h)
/-- The items of the statement. -/
def szI (K i : Nat) : It := if i < K then imgI i i else markI (4 + ((i % 2 : Nat) : Int)) i
def szTo (K n : Nat) : List It := (List.range n).map (szI K)
theorem szTo_succ (K n : Nat) : szTo K (n + 1) = szTo K n ++ [szI K n] := by simp [szTo, List.range_succ]
theorem szTo_length (K n : Nat) : (szTo K n).length = n := by simp [szTo]
theorem szI_wf {K i : Nat} (h : i < 64) : (szI K i).Wf := by
  unfold szI
  split
  · exact imgI_wf (smallN i (by omega)) (byteN i (by omega))
  · exact markI_wf ⟨by omega, by omega⟩ (smallN i (by omega))
theorem szI_ok {K i : Nat} (h : i < 64) : (szI K i).ok = true := by
  unfold szI
  split
  · exact imgI_ok (by omega)
  · exact markI_ok (by omega) (by omega)
theorem szI_slot {K i : Nat} : slotOf (szI K i).mark = i := by
  unfold szI
  split
  · exact slot_img _ _
  · exact slot_mark (by omega)
theorem szI_has {K i : Nat} : (szI K i).has = decide (i < K) := by
  unfold szI
  by_cases h : i < K
  · rw [if_pos h, decide_eq_true h]; rfl
  · rw [if_neg h, decide_eq_false h]
    simp only [It.has, markI, hasBlock]
    rw [Bool.and_eq_false_iff]
    exact .inr (decide_eq_false (by omega))
theorem szI_nob {K i : Nat} : (szI K i).blk.bytes = [] := by unfold szI; split <;> rfl
theorem szTo_may {K n : Nat} (h1 : 1 ≤ n) (h2 : n ≤ 64) : mayBe (szTo K n) = true := mayBe_iff.2 ⟨by rw [szTo_length]; omega, by rw [szTo_length]; omega, fun x hx => by
  obtain ⟨i, hi, rfl⟩ := List.mem_map.1 hx
  have := List.mem_range.1 hi
  exact szI_ok (by omega), by
  have : slots (szTo K n) = (List.range n).map fun i : Nat => (i : Int) := by simp [slots, szTo, szI_slot]
  rw [this]
  exact List.Pairwise.map _ (fun a b h => by omega) List.nodup_range⟩
theorem szTo_blocks {K n : Nat} : blocks (marks (szTo K n)) = min K n := by
  induction n with
  | zero => simp [szTo, blocks]
  | succ n ih =>
    rw [szTo_succ]
    have hh : hasBlock (szI K n).mark.1 = decide (n < K) := szI_has
    simp only [marks, List.map_append, blocks_append, List.map_cons, List.map_nil, blocks] at ih ⊢
    rw [ih, hh]
    by_cases h : n < K
    · simp [h]; omega
    · simp [h]; omega
theorem szTo_at {K n i : Nat} (h : i < n) : (szTo K n)[i]? = some (szI K i) := by simp [szTo, h]
theorem szTo_val {K n : Nat} (hK : K ≤ n) {i : Nat} (h : i < n) : ∃ v : Int, (lay2 9 (szTo K n)).2[i]? = some v ∧ (¬ i < K → v = -1) ∧ (i < K → 1 ≤ v ∧ v < ((parts n + K : Nat) : Int)) := by
  obtain ⟨v, h1, h2, h3⟩ := lay2_atv (n := 9) (szTo_at (K := K) h)
  rw [szI_has] at h2 h3
  rw [lay2_length, szTo_length, szTo_blocks, Nat.min_eq_left hK] at h3
  exact ⟨v, h1, fun hh => h2 (decide_eq_false hh), fun hh => h3 (decide_eq_true hh)⟩

theorem off_nob (g : Option Nat) (sv : Value) {l : List Int} (h : l = []) : Off g sv l := fun hp => by rw [h] at hp; exact absurd hp (Nat.lt_irrefl 0)
set_option maxRecDepth 100000 in
set_option maxHeartbeats 8000000 in
theorem sizes_any (many bl : Int) (hm : Byte many) (hb : Byte bl) (w : World) : Calls Try.prog 5 #[.int .u8 many, .int .u8 bl] w fun e w' => e = .returned (.bool true) ∧ Below w.heap.size w w' := by
  obtain ⟨m1, m2⟩ := hm
  obtain ⟨b1, b2⟩ := hb
  obtain ⟨N, hN⟩ : ∃ N : Nat, 1 + many % 64 = (N : Int) := ⟨(1 + many % 64).toNat, by omega⟩
  have hN1 : 1 ≤ N ∧ N ≤ 64 := by omega
  obtain ⟨mn, hmn⟩ : ∃ m : Nat, min N 16 = m := ⟨_, rfl⟩
  have hmn2 : mn ≤ N ∧ mn ≤ 16 := by omega
  obtain ⟨K, hK⟩ : ∃ K : Nat, bl % ((mn : Int) + 1) = (K : Int) := ⟨(bl % ((mn : Int) + 1)).toNat, by have := Int.emod_nonneg bl (show ((mn : Int) + 1) ≠ 0 by omega); omega⟩
  have hK1 : K ≤ mn := by have := Int.emod_lt_of_pos bl (show (0 : Int) < (mn : Int) + 1 by omega); omega
  have gt : Hid (bl.tmod ((mn : Int) + 1) = (K : Int)) := Lib.hid (by rw [Int.tmod_eq_emod_of_nonneg b1, hK])
  have gmn : Hid (min N 16 = mn) := Lib.hid hmn
  have HNE := Lib.hid hN
  have hK2 : K ≤ 16 := by omega
  have HKN : Hid (K ≤ N) := Lib.hid (by omega)
  have hN64 : N ≤ 64 := hN1.2
  have HN1 := Lib.hid hN1.1
  have HMAY := Lib.hid (szTo_may (K := K) hN1.1 hN1.2)
  have HWK := Lib.hid wakes_any
  clear hN hmn hK hN1
  go_enter Try.func5, Try.ntmps5
  go_upto_region 2 with fail
  rw [HNE.out]
  refine wp_region_lit ?_
  refine takeL (.int .u8 bl) rfl (by go_simp) ?_
  try simp only [Act.put, List.setIfInBounds_toArray, List.set_cons_succ, List.set_cons_zero]
  refine takeL (.int .i64 bl) rfl (by go_simp <;> exact wrap64 (by omega) (by omega)) ?_
  try simp only [Act.put, List.setIfInBounds_toArray, List.set_cons_succ, List.set_cons_zero]
  refine takeL (.int .i64 N) rfl (by go_simp) ?_
  try simp only [Act.put, List.setIfInBounds_toArray, List.set_cons_succ, List.set_cons_zero]
  refine takeL (.int .i64 mn) rfl (by have g := gmn.out; go_simp <;> (split <;> omega)) ?_
  try simp only [Act.put, List.setIfInBounds_toArray, List.set_cons_succ, List.set_cons_zero]
  refine takeL (.int .i64 ((mn : Int) + 1)) rfl (by go_simp <;> exact wrap64 (by omega) (by omega)) ?_
  try simp only [Act.put, List.setIfInBounds_toArray, List.set_cons_succ, List.set_cons_zero]
  refine takeL (.int .i64 K) rfl (by have g := gt.out; have hz : ¬ ((mn : Int) + 1 = 0) := (by omega); go_simp) ?_
  try simp only [Act.put, List.setIfInBounds_toArray, List.set_cons_succ, List.set_cons_zero]
  refine takeL (.int .i64 K) rfl (by go_simp) ?_
  try simp only [Act.put, List.setIfInBounds_toArray, List.set_cons_succ, List.set_cons_zero]
  refine wpList_nil ?_
  go_wp2_with fail
  go_loopg [7, 8] N (fun q u7 i wr => ∃ (j : Nat) (s7 : Value) (L : List (It × Value)), s7 = u7 ∧ N - j ≤ q ∧ j ≤ N ∧ i = .int .i64 j ∧ L.map (·.1) = szTo K j ∧ OwnI wr w.heap.size s7 L ∧ Below w.heap.size w wr)
  case atStart => exact ⟨0, _, [], rfl, by omega, by omega, rfl, rfl, OwnI.nil _ _, Below.refl _ _⟩
  case round =>
    obtain ⟨j, s7, L, rfl, hq, hj, rfl, hL, ho, hb⟩ := hrel
    have HL := Lib.hid hL
    have HO := Lib.hid ho
    have HB := Lib.hid hb
    have HLN : Hid (L.length = j) := Lib.hid (by have := congrArg List.length hL; rw [List.length_map, szTo_length] at this; exact this)
    clear hL ho hb
    by_cases hlt : j < N
    · have gj : decide ((j : Int) < (N : Int)) = true := decide_eq_true (by omega)
      have HWI := Lib.hid (szI_wf (K := K) (i := j) (by omega))
      have HSU := Lib.hid (szTo_succ K j)
      by_cases hjk : j < K
      · have gk : decide ((j : Int) < (K : Int)) = true := decide_eq_true (by omega)
        have HEI : Hid (szI K j = imgI j j) := Lib.hid (by unfold szI; rw [if_pos hjk])
        have HIM := Lib.hid fun w => image_any j j (smallN j (by omega)) (byteN j (by omega)) w
        rw [HEI.out] at HWI

        go_upto_region 8 with fail
        refine wp_region_lit ?_
        refine takeL (s7) rfl (by go_simp) ?_
        try simp only [Act.put, List.setIfInBounds_toArray, List.set_cons_succ, List.set_cons_zero]
        refine takeL (.int .i64 j) rfl (by go_simp) ?_
        try simp only [Act.put, List.setIfInBounds_toArray, List.set_cons_succ, List.set_cons_zero]
        refine takeL (.int .i64 j) rfl (by go_simp) ?_
        try simp only [Act.put, List.setIfInBounds_toArray, List.set_cons_succ, List.set_cons_zero]
        refine takeL (.int .u8 j) rfl (by go_simp <;> exact wrap8 (by omega) (by omega)) ?_
        try simp only [Act.put, List.setIfInBounds_toArray, List.set_cons_succ, List.set_cons_zero]
        refine wpList_op rfl fun K hK => ?_
        go_simp
        refine (HIM.out _).mono ?_
        rintro e w2 ⟨rfl, hb⟩
        have HB2 := Lib.hid (stay HB.out hb)
        have HO2 := Lib.hid (HO.out.below hb)
        clear hb HB HO HIM
        refine hK _ _ ?_
        clear hK K
        try simp only [Act.put, List.setIfInBounds_toArray, List.set_cons_succ, List.set_cons_zero]
        refine wpList_run _ _ rfl (exec_buildSlice _ _ _ _ 22 1 _ rfl #[(0, .agg ((imgI j j).arr nb))] (by simp only [List.map_toArray, List.map_cons, List.map_nil]; rfl) _ (lit1_run _ HWI.out)) ?_
        try simp only [Act.put, List.setIfInBounds_toArray, List.set_cons_succ, List.set_cons_zero]
        have hb := alloc_bel w2 (.cells (itCells [(imgI j j, nb)]).toArray 72)
        have HB3 := Lib.hid (stay HB2.out hb)
        have HO3 := Lib.hid (HO2.out.below hb)
        have HI3 := Lib.hid (lit_its w2 (l := [(imgI j j, nb)]) (fun x hx => by obtain rfl := List.mem_singleton.1 hx; exact ⟨HWI.out, BytesAt.nil _ _ _⟩) 1 rfl (by decide))
        generalize w2.alloc (.cells (itCells [(imgI j j, nb)]).toArray 72) = w3 at *
        clear hb HB2 HO2
        refine app_LI HO3.out HB3.out.size HI3.out (fun x hx => by obtain rfl := List.mem_singleton.1 hx; exact off_nob _ _ rfl) (by have := HLN.out; simp only [List.length_cons, List.length_nil]; omega) rfl rfl rfl ?_
        intro t7 w4 ho4 hg4 hr4
        try simp only [Act.put, List.setIfInBounds_toArray, List.set_cons_succ, List.set_cons_zero]
        have HB4 := Lib.hid (HB3.out.trans (grown_below hg4 HB3.out.size fun k hk => (HO3.out.lt k hk).1))
        have HO4 := Lib.hid ho4
        have HL4 : Hid ((L ++ [(imgI j j, nb)]).map (·.1) = szTo K (j + 1)) := Lib.hid (by rw [HSU.out, List.map_append, HL.out, HEI.out]; rfl)
        clear ho4 hg4 hr4
        refine takeL (t7) rfl (by go_simp) ?_
        try simp only [Act.put, List.setIfInBounds_toArray, List.set_cons_succ, List.set_cons_zero]
        refine wpList_nil ?_
        go_wp2_with fail
        go_roundg (N - (j + 1))
        case measure => omega
        case rel => exact ⟨j + 1, _, _, rfl, by omega, by omega, by go_num, HL4.out, HO4.out, HB4.out⟩
      · have gk : decide ((j : Int) < (K : Int)) = false := decide_eq_false (by omega)
        have gk2 : decide (j < K) = false := decide_eq_false hjk
        obtain ⟨r, hr⟩ : ∃ r : Nat, j % 2 = r := ⟨_, rfl⟩
        have hr1 : r ≤ 1 := by omega
        have HEI : Hid (szI K j = markI (4 + (r : Int)) j) := Lib.hid (by unfold szI; rw [if_neg hjk, hr])
        have gr : Hid ((j : Int).tmod 2 = (r : Int)) := Lib.hid (by rw [Int.tmod_eq_emod_of_nonneg (by omega)]; omega)
        rw [HEI.out] at HWI
        clear hr
        go_upto_region 9 with fail
        refine wp_region_lit ?_
        refine takeL (s7) rfl (by go_simp) ?_
        try simp only [Act.put, List.setIfInBounds_toArray, List.set_cons_succ, List.set_cons_zero]
        refine takeL (.int .i64 j) rfl (by go_simp) ?_
        try simp only [Act.put, List.setIfInBounds_toArray, List.set_cons_succ, List.set_cons_zero]
        refine takeL (.int .i64 r) rfl (by have g := gr.out; go_simp) ?_
        try simp only [Act.put, List.setIfInBounds_toArray, List.set_cons_succ, List.set_cons_zero]
        refine takeL (.int .i64 (4 + (r : Int))) rfl (by go_simp <;> exact wrap64 (by omega) (by omega)) ?_
        try simp only [Act.put, List.setIfInBounds_toArray, List.set_cons_succ, List.set_cons_zero]
        refine takeL (.int .i64 j) rfl (by go_simp) ?_
        try simp only [Act.put, List.setIfInBounds_toArray, List.set_cons_succ, List.set_cons_zero]
        refine takeL (.agg #[.int .i64 (4 + (r : Int)), .int .i64 j]) rfl (exec_build _ _ _ _ 70 _ rfl #[(0, .int .i64 (4 + (r : Int))), (1, .int .i64 j)] (by simp only [List.map_toArray, List.map_cons, List.map_nil]; rfl) _ (run_build wr 70 _ _ (built70 _ _))) ?_
        try simp only [Act.put, List.setIfInBounds_toArray, List.set_cons_succ, List.set_cons_zero]
        refine takeL (.agg ((markI (4 + (r : Int)) j).arr nb)) rfl (exec_build _ _ _ _ 72 _ rfl #[(0, .agg #[.int .i64 (4 + (r : Int)), .int .i64 j])] (by simp only [List.map_toArray, List.map_cons, List.map_nil]; rfl) _ (run_build wr 72 _ _ (built72m _ _))) ?_
        try simp only [Act.put, List.setIfInBounds_toArray, List.set_cons_succ, List.set_cons_zero]
        refine wpList_run _ _ rfl (exec_buildSlice _ _ _ _ 22 1 _ rfl #[(0, .agg ((markI (4 + (r : Int)) j).arr nb))] (by simp only [List.map_toArray, List.map_cons, List.map_nil]; rfl) _ (lit1_run _ HWI.out)) ?_
        try simp only [Act.put, List.setIfInBounds_toArray, List.set_cons_succ, List.set_cons_zero]
        have hb := alloc_bel wr (.cells (itCells [(markI (4 + (r : Int)) j, nb)]).toArray 72)
        have HB3 := Lib.hid (stay HB.out hb)
        have HO3 := Lib.hid (HO.out.below hb)
        have HI3 := Lib.hid (lit_its wr (l := [(markI (4 + (r : Int)) j, nb)]) (fun x hx => by obtain rfl := List.mem_singleton.1 hx; exact ⟨HWI.out, BytesAt.nil _ _ _⟩) 1 rfl (by decide))
        generalize wr.alloc (.cells (itCells [(markI (4 + (r : Int)) j, nb)]).toArray 72) = w3 at *
        clear hb HB HO
        refine app_LI HO3.out HB3.out.size HI3.out (fun x hx => by obtain rfl := List.mem_singleton.1 hx; exact off_nob _ _ rfl) (by have := HLN.out; simp only [List.length_cons, List.length_nil]; omega) rfl rfl rfl ?_
        intro t7 w4 ho4 hg4 hr4
        try simp only [Act.put, List.setIfInBounds_toArray, List.set_cons_succ, List.set_cons_zero]
        have HB4 := Lib.hid (HB3.out.trans (grown_below hg4 HB3.out.size fun k hk => (HO3.out.lt k hk).1))
        have HO4 := Lib.hid ho4
        have HL4 : Hid ((L ++ [(markI (4 + (r : Int)) j, nb)]).map (·.1) = szTo K (j + 1)) := Lib.hid (by rw [HSU.out, List.map_append, HL.out, HEI.out]; rfl)
        clear ho4 hg4 hr4
        refine takeL (t7) rfl (by go_simp) ?_
        try simp only [Act.put, List.setIfInBounds_toArray, List.set_cons_succ, List.set_cons_zero]
        refine wpList_nil ?_
        go_wp2_with fail
        go_roundg (N - (j + 1))
        case measure => omega
        case rel => exact ⟨j + 1, _, _, rfl, by omega, by omega, by go_num, HL4.out, HO4.out, HB4.out⟩
    · obtain rfl : j = N := by omega
      have gj : decide ((j : Int) < (j : Int)) = false := decide_eq_false (by omega)
      obtain ⟨a7, c7, hs7, -⟩ := HO.out.len
      rw [HLN.out] at hs7
      subst hs7
      have HI := Lib.hid HO.out.items
      have HLY := Lib.hid fun w h => lay_yes L (szTo K j) HL.out HMAY.out 9 (seqN 9 (by decide)) (.slice a7 j c7) w h
      have HSZ := Lib.hid fun w h => sizeG_any L (szTo K j) HL.out (.slice a7 j c7) (by rw [HLN.out]; omega) w h
      have HPT := Lib.hid fun w h => partsG_any L (szTo K j) HL.out (.slice a7 j c7) (by rw [HLN.out]; omega) w h
      obtain ⟨P, hP⟩ : ∃ P, parts j = P := ⟨_, rfl⟩
      have hP3 : P ≤ 3 := by rw [← hP]; unfold parts; omega
      have gp : Hid (((j : Int) + 24 - 1) / 24 = (P : Int)) := Lib.hid (by rw [← hP]; unfold parts; omega)
      have gp2 : Hid (((j : Int) + 23) / 24 = (P : Int)) := Lib.hid (by rw [← hP]; unfold parts; omega)
      have gp3 : Hid (IntKind.i64.wrap (((j : Int) + 23).tdiv 24) = (P : Int)) := Lib.hid (by rw [Int.tdiv_eq_ediv_of_nonneg (by omega), gp2.out]; exact wrap64 (by omega) (by omega))
      have HS1 : Hid (sizeOf' (szTo K j) = ((P + K : Nat) : Int)) := Lib.hid (by unfold sizeOf'; rw [HMAY.out, if_pos rfl, szTo_length, szTo_blocks, Nat.min_eq_left HKN.out, hP])
      have HP1 : Hid (partsN (szTo K j) = (P : Int)) := Lib.hid (by unfold partsN; rw [HMAY.out, if_pos rfl, szTo_length, hP])
      have HLL : Hid ((lay2 9 (szTo K j)).1.length = P + K) := Lib.hid (by rw [lay2_length, szTo_length, szTo_blocks, Nat.min_eq_left HKN.out, hP])
      have HLA : Hid ((lay2 9 (szTo K j)).2.length = j) := Lib.hid (by rw [lay2_at, szTo_length])
      have HVAL : Hid (∀ i, i < j → ∃ v : Int, (lay2 9 (szTo K j)).2[i]? = some v ∧ (¬ i < K → v = -1) ∧ (i < K → 1 ≤ v ∧ v < ((P + K : Nat) : Int))) := Lib.hid fun i hi => by have := szTo_val HKN.out hi; rw [hP] at this; exact this
      rw [HS1.out] at HSZ
      rw [HP1.out] at HPT
      obtain ⟨T, hT⟩ : ∃ T, P + K = T := ⟨_, rfl⟩
      rw [hT] at HSZ HLL HVAL
      have eT : ((T : Int) != (K : Int) + (P : Int)) = false := by rw [bne_dec]; simp; omega
      have eT2 : (T : Int) = (K : Int) + (P : Int) := by omega
      have HET := Lib.hid eT2
      have hT24 : T ≤ 24 := by omega
      clear hT eT2
      clear hP
      go_wp2_with fail
      refine (HLY.out _ HI.out).mono ?_
      rintro e w2 ⟨s9, s10, rfl, ht⟩
      obtain ⟨a9, c9, hs9, -⟩ := ht.s.len
      obtain ⟨a10, c10, hs10⟩ := ht.a.ints.form
      rw [HLL.out] at hs9
      rw [HLA.out] at hs10
      have HI2 := Lib.hid (HI.out.below ht.b)
      have HB2 := Lib.hid (stay HB.out ht.b)
      have HA2 := Lib.hid ht.a.ints
      subst hs9
      subst hs10
      clear ht HI HB HO HLY
      go_upto_region 11 with fail
      refine wp_region_lit ?_
      refine takeL (.int .i64 j) rfl (by go_simp) ?_
      try simp only [Act.put, List.setIfInBounds_toArray, List.set_cons_succ, List.set_cons_zero]
      refine takeL (.int .i64 ((j : Int) + 24)) rfl (by go_simp <;> exact wrap64 (by omega) (by omega)) ?_
      try simp only [Act.put, List.setIfInBounds_toArray, List.set_cons_succ, List.set_cons_zero]
      refine takeL (.int .i64 ((j : Int) + 23)) rfl (by go_simp <;> first | omega | (rw [show (j : Int) + 24 - 1 = (j : Int) + 23 by omega]; exact wrap64 (by omega) (by omega))) ?_
      try simp only [Act.put, List.setIfInBounds_toArray, List.set_cons_succ, List.set_cons_zero]
      refine takeL (.int .i64 P) rfl (by have g := gp3.out; go_simp) ?_
      try simp only [Act.put, List.setIfInBounds_toArray, List.set_cons_succ, List.set_cons_zero]
      refine takeL (.int .i64 P) rfl (by go_simp) ?_
      try simp only [Act.put, List.setIfInBounds_toArray, List.set_cons_succ, List.set_cons_zero]
      refine wpList_nil ?_
      go_wp2_with fail
      refine (HSZ.out _ HI2.out).mono ?_
      rintro e w3 ⟨rfl, hb⟩
      have HI3 := Lib.hid (HI2.out.below hb)
      have HB3 := Lib.hid (stay HB2.out hb)
      have HA3 := Lib.hid (HA2.out.below hb)
      clear hb HI2 HB2 HA2 HSZ
      go_wp2_with fail
      refine (HPT.out _ HI3.out).mono ?_
      rintro e w4 ⟨rfl, hb⟩
      have HB4 := Lib.hid (stay HB3.out hb)
      have HA4 := Lib.hid (HA3.out.below hb)
      clear hb HI3 HB3 HA3 HPT
      go_wp2_with fail
      go_loopg [13] j (fun q i wr => ∃ m : Nat, j - m ≤ q ∧ m ≤ j ∧ i = .int .i64 m ∧ IntsAt wr (.slice a10 j c10) (lay2 9 (szTo K j)).2 ∧ Below w.heap.size w wr)
      case atStart => exact ⟨0, by omega, by omega, rfl, HA4.out, HB4.out⟩
      case round =>
        obtain ⟨m, hq2, hm, rfl, ha, hb⟩ := hrel
        have HA := Lib.hid ha
        have HB := Lib.hid hb
        clear ha hb HA4 HB4
        by_cases hmj : m < j
        · obtain ⟨v, hv, hv1, hv2⟩ := HVAL.out m hmj
          obtain ⟨b, o, cap, hab, hc⟩ := HA.out.has (by rw [HLA.out]; omega)
          rw [HLA.out] at hab
          have ha10 : a10 = some ⟨b, o, none⟩ := by injection hab
          subst ha10
          have c0 := hc m v hv
          have gj2 : decide ((m : Int) < (j : Int)) = true := decide_eq_true (by omega)
          have hm0 : (m : Int) < (j : Int) := by omega
          clear hab hc hv
          by_cases hmk : m < K
          · obtain ⟨hv3, hv4⟩ := hv2 hmk
            have gk : decide ((m : Int) < (K : Int)) = true := decide_eq_true (by omega)
            have gv0 : decide (0 ≤ v) = true := decide_eq_true (by omega)
            have gv1 : decide (v < 1) = false := decide_eq_false (by omega)
            have gv2 : decide ((T : Int) ≤ v) = false := decide_eq_false (by omega)
            clear hv1 hv2
            go_wp2_with fail
            go_roundg (j - (m + 1))
            case measure => omega
            case rel => exact ⟨m + 1, by omega, by omega, by go_num, HA.out, HB.out⟩
          · have hv3 := hv1 hmk
            subst hv3
            have gk : decide ((m : Int) < (K : Int)) = false := decide_eq_false (by omega)
            clear hv1 hv2
            go_wp2_with fail
            go_roundg (j - (m + 1))
            case measure => omega
            case rel => exact ⟨m + 1, by omega, by omega, by go_num, HA.out, HB.out⟩
        · obtain rfl : m = j := by omega
          have gj2 : decide ((m : Int) < (m : Int)) = false := decide_eq_false (by omega)
          go_wp2_with fail
          refine (HWK.out _).mono ?_
          rintro e w9 ⟨rfl, hb⟩
          have HB9 := Lib.hid (stay HB.out hb)
          clear hb
          go_wp2_with fail
          go_ret
          exact ⟨rfl, HB9.out⟩

end Go.Proofs.Ytbhaifdhmfmeoaa
