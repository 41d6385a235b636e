/- What the six statements share: pages and sectors of one byte, items of an image, items that are not too many nor too long. -/
import Derived.Test.YtbhaifdhmfmeoaaGrd
namespace Go.Proofs.Ytbhaifdhmfmeoaa
set_option linter.unusedSimpArgs false
set_option linter.unusedVariables false
open Go.RowKit

def rp (n : Nat) (v : Int) : List Int := List.replicate n v
theorem small1 : Small 1 := ⟨by decide, by decide⟩
theorem zero53z : (Try.prog.info? 53).bind (·.zero) = some (.agg (u8s (zeros 32)).toArray) := by kernel_rfl
theorem zero50z : (Try.prog.info? 50).bind (·.zero) = some (.agg (u8s (zeros 64)).toArray) := by kernel_rfl

theorem filled32_length (v : Int) {k : Nat} (h : k ≤ 32) : (List.replicate k v ++ zeros (32 - k)).length = 32 := by simp [zeros]; omega
theorem filled32_set (v : Int) (k : Nat) (h : k < 32) : (List.replicate k v ++ zeros (32 - k)).set k v = List.replicate (k + 1) v ++ zeros (32 - (k + 1)) := by
  unfold zeros
  rw [List.set_append_right _ _ (by simp), show 32 - k = (32 - (k + 1)) + 1 by omega, List.replicate_succ]
  simp only [List.length_replicate, Nat.sub_self, List.set_cons_zero]
  rw [List.replicate_succ', List.append_assoc]
  rfl
theorem filled32_at (v : Int) (k : Nat) (h : k < 32) : (u8s (List.replicate k v ++ zeros (32 - k)))[k]? = some (.int .u8 0) := by
  rw [List.getElem?_map]
  unfold zeros
  rw [List.getElem?_append_right (by simp)]
  simp only [List.length_replicate, Nat.sub_self]
  rw [List.getElem?_replicate, if_pos (by omega)]
  rfl
set_option maxRecDepth 100000 in
theorem leaf_any (v : Int) (w : World) : Calls Try.prog 46 #[.int .u8 v] w fun e w' => e = .returned (.agg (u8s (rp 32 v)).toArray) ∧ Below w.heap.size w w' := by
  go_enter Try.func46, Try.ntmps46
  go_upto_region 0 with fail
  refine wp_region_lit ?_
  refine alloc_g zero53z rfl ?_
  intro w1 hA hb hl
  try simp only [Act.put, List.setIfInBounds_toArray, List.set_cons_succ, List.set_cons_zero]
  have HA := Lib.hid hA
  have HB := Lib.hid hb
  have HL := Lib.hid hl
  clear hA hb hl
  refine wpList_nil ?_
  go_upto_region 1 with fail
  refine wp_region_lit ?_
  refine alloc_g zero53z rfl ?_
  intro w2 hA hb hl
  try simp only [Act.put, List.setIfInBounds_toArray, List.set_cons_succ, List.set_cons_zero]
  have HA2 := Lib.hid (HA.out.below hb HL.out)
  have HC := Lib.hid hA
  have HB2 := Lib.hid (stay HB.out hb)
  obtain ⟨t, ht⟩ : ∃ t, w1.heap.size = t := ⟨_, rfl⟩
  rw [ht] at HC HL ⊢
  clear hA hb hl HA HB ht
  refine wpList_nil ?_
  go_wp2_with fail
  go_loopg [4] 32 (fun q i wr => ∃ k : Nat, 32 - k ≤ q ∧ k ≤ 32 ∧ i = .int .i64 k ∧ Blk wr w.heap.size (u8s (zeros 32)) ∧ Blk wr t (u8s (List.replicate k v ++ zeros (32 - k))) ∧ Below w.heap.size w wr)
  case atStart => exact ⟨0, by omega, by omega, rfl, HA2.out, HC.out, HB2.out⟩
  case round =>
    obtain ⟨k, hq, hk, rfl, h1, h2, h3⟩ := hrel
    have H1 := Lib.hid h1
    have H2 := Lib.hid h2
    have H3 := Lib.hid h3
    clear h1 h2 h3 HA2 HC HB2
    by_cases hlt : k < 32
    · have c0 := H2.out.cell (filled32_at v k hlt)
      have f0 := H2.out.frozen k
      have gk : decide ((k : Int) < 32) = true := decide_eq_true (by omega)
      have HR : Hid (Blk (wr.setCell ⟨t, k, none⟩ (.int .u8 v)) t (u8s (List.replicate (k + 1) v ++ zeros (32 - (k + 1))))) := Lib.hid (by
        have := H2.out.set k (.int .u8 v)
        rw [show (u8s (List.replicate k v ++ zeros (32 - k))).set k (.int .u8 v) = u8s ((List.replicate k v ++ zeros (32 - k)).set k v) by simp [List.map_set], filled32_set v k hlt] at this
        exact this)
      have HR1 : Hid (Blk (wr.setCell ⟨t, k, none⟩ (.int .u8 v)) w.heap.size (u8s (zeros 32))) := Lib.hid (H1.out.setOther (by have := HL.out; simp only; omega) _)
      have HR3 : Hid (Below w.heap.size w (wr.setCell ⟨t, k, none⟩ (.int .u8 v))) := Lib.hid (H3.out.setCell (by have := HL.out; simp only; omega) _)
      go_wp2_with fail
      go_roundg (32 - (k + 1))
      case measure => omega
      case rel => exact ⟨k + 1, by omega, by omega, by go_num, HR1.out, HR.out, HR3.out⟩
    · obtain rfl : k = 32 := by omega
      rw [Nat.sub_self, show zeros 0 = [] from rfl, List.append_nil] at H2
      have HLN : Hid ((rp 32 v).length = 32) := Lib.hid (by simp [rp])
      have HZ : Hid ((zeros 32).length = 32) := Lib.hid (zeros_length 32)
      have hrp : List.replicate 32 v = rp 32 v := rfl
      rw [hrp] at H2
      obtain ⟨p, hp⟩ : ∃ p, rp 32 v = p := ⟨_, rfl⟩
      rw [hp] at H2 HLN
      have HP := Lib.hid hp
      clear hp hlt hrp
      go_upto_region 6 with fail
      refine wp_region_lit ?_
      refine load53 (cs := (u8s p).toArray) (Blk.all H2.out rfl) (by rw [u8s_size, HLN.out]) rfl rfl ?_
      try simp only [Act.put, List.setIfInBounds_toArray, List.set_cons_succ, List.set_cons_zero]
      refine store_all (cs := (u8s p).toArray) H1.out (by rw [u8s_size, HLN.out, List.length_map, HZ.out]) (by rw [u8s_size, HLN.out]; exact info53) (u8s_one _) rfl rfl rfl ?_
      intro w9 hD hO hlD
      try simp only [Act.put, List.setIfInBounds_toArray, List.set_cons_succ, List.set_cons_zero]
      have HD := Lib.hid hD
      have HR := Lib.hid (H3.out.trans (hO.below H3.out.size fun k hk => Nat.le_of_eq hk.symm))
      clear hD hO hlD
      refine wpList_nil ?_
      go_wp2_with fail
      refine bodyPost_ret (v := .agg (u8s p).toArray) (results_cell_at rfl _ _ w.heap.size 0 _ _ rfl Try.underlying53 rfl (by rw [u8s_size, HLN.out]; exact info53) (Blk.all HD.out rfl)) rfl ⟨by rw [HP.out], HR.out⟩

theorem filled64_length (v : Int) {k : Nat} (h : k ≤ 64) : (List.replicate k v ++ zeros (64 - k)).length = 64 := by simp [zeros]; omega
theorem filled64_set (v : Int) (k : Nat) (h : k < 64) : (List.replicate k v ++ zeros (64 - k)).set k v = List.replicate (k + 1) v ++ zeros (64 - (k + 1)) := by
  unfold zeros
  rw [List.set_append_right _ _ (by simp), show 64 - k = (64 - (k + 1)) + 1 by omega, List.replicate_succ]
  simp only [List.length_replicate, Nat.sub_self, List.set_cons_zero]
  rw [List.replicate_succ', List.append_assoc]
  rfl
theorem filled64_at (v : Int) (k : Nat) (h : k < 64) : (u8s (List.replicate k v ++ zeros (64 - k)))[k]? = some (.int .u8 0) := by
  rw [List.getElem?_map]
  unfold zeros
  rw [List.getElem?_append_right (by simp)]
  simp only [List.length_replicate, Nat.sub_self]
  rw [List.getElem?_replicate, if_pos (by omega)]
  rfl
set_option maxRecDepth 100000 in
theorem fill_any (v : Int) (w : World) : Calls Try.prog 23 #[.int .u8 v] w fun e w' => e = .returned (.agg (u8s (rp 64 v)).toArray) ∧ Below w.heap.size w w' := by
  go_enter Try.func23, Try.ntmps23
  go_upto_region 0 with fail
  refine wp_region_lit ?_
  refine alloc_g zero50z rfl ?_
  intro w1 hA hb hl
  try simp only [Act.put, List.setIfInBounds_toArray, List.set_cons_succ, List.set_cons_zero]
  have HA := Lib.hid hA
  have HB := Lib.hid hb
  have HL := Lib.hid hl
  clear hA hb hl
  refine wpList_nil ?_
  go_upto_region 1 with fail
  refine wp_region_lit ?_
  refine alloc_g zero50z rfl ?_
  intro w2 hA hb hl
  try simp only [Act.put, List.setIfInBounds_toArray, List.set_cons_succ, List.set_cons_zero]
  have HA2 := Lib.hid (HA.out.below hb HL.out)
  have HC := Lib.hid hA
  have HB2 := Lib.hid (stay HB.out hb)
  obtain ⟨t, ht⟩ : ∃ t, w1.heap.size = t := ⟨_, rfl⟩
  rw [ht] at HC HL ⊢
  clear hA hb hl HA HB ht
  refine wpList_nil ?_
  go_wp2_with fail
  go_loopg [4] 64 (fun q i wr => ∃ k : Nat, 64 - k ≤ q ∧ k ≤ 64 ∧ i = .int .i64 k ∧ Blk wr w.heap.size (u8s (zeros 64)) ∧ Blk wr t (u8s (List.replicate k v ++ zeros (64 - k))) ∧ Below w.heap.size w wr)
  case atStart => exact ⟨0, by omega, by omega, rfl, HA2.out, HC.out, HB2.out⟩
  case round =>
    obtain ⟨k, hq, hk, rfl, h1, h2, h3⟩ := hrel
    have H1 := Lib.hid h1
    have H2 := Lib.hid h2
    have H3 := Lib.hid h3
    clear h1 h2 h3 HA2 HC HB2
    by_cases hlt : k < 64
    · have c0 := H2.out.cell (filled64_at v k hlt)
      have f0 := H2.out.frozen k
      have gk : decide ((k : Int) < 64) = true := decide_eq_true (by omega)
      have HR : Hid (Blk (wr.setCell ⟨t, k, none⟩ (.int .u8 v)) t (u8s (List.replicate (k + 1) v ++ zeros (64 - (k + 1))))) := Lib.hid (by
        have := H2.out.set k (.int .u8 v)
        rw [show (u8s (List.replicate k v ++ zeros (64 - k))).set k (.int .u8 v) = u8s ((List.replicate k v ++ zeros (64 - k)).set k v) by simp [List.map_set], filled64_set v k hlt] at this
        exact this)
      have HR1 : Hid (Blk (wr.setCell ⟨t, k, none⟩ (.int .u8 v)) w.heap.size (u8s (zeros 64))) := Lib.hid (H1.out.setOther (by have := HL.out; simp only; omega) _)
      have HR3 : Hid (Below w.heap.size w (wr.setCell ⟨t, k, none⟩ (.int .u8 v))) := Lib.hid (H3.out.setCell (by have := HL.out; simp only; omega) _)
      go_wp2_with fail
      go_roundg (64 - (k + 1))
      case measure => omega
      case rel => exact ⟨k + 1, by omega, by omega, by go_num, HR1.out, HR.out, HR3.out⟩
    · obtain rfl : k = 64 := by omega
      rw [Nat.sub_self, show zeros 0 = [] from rfl, List.append_nil] at H2
      have HLN : Hid ((rp 64 v).length = 64) := Lib.hid (by simp [rp])
      have HZ : Hid ((zeros 64).length = 64) := Lib.hid (zeros_length 64)
      have hrp : List.replicate 64 v = rp 64 v := rfl
      rw [hrp] at H2
      obtain ⟨p, hp⟩ : ∃ p, rp 64 v = p := ⟨_, rfl⟩
      rw [hp] at H2 HLN
      have HP := Lib.hid hp
      clear hp hlt hrp
      go_upto_region 6 with fail
      refine wp_region_lit ?_
      refine load50 (cs := (u8s p).toArray) (Blk.all H2.out rfl) (by rw [u8s_size, HLN.out]) rfl rfl ?_
      try simp only [Act.put, List.setIfInBounds_toArray, List.set_cons_succ, List.set_cons_zero]
      refine store_all (cs := (u8s p).toArray) H1.out (by rw [u8s_size, HLN.out, List.length_map, HZ.out]) (by rw [u8s_size, HLN.out]; exact info50) (u8s_one _) rfl rfl rfl ?_
      intro w9 hD hO hlD
      try simp only [Act.put, List.setIfInBounds_toArray, List.set_cons_succ, List.set_cons_zero]
      have HD := Lib.hid hD
      have HR := Lib.hid (H3.out.trans (hO.below H3.out.size fun k hk => Nat.le_of_eq hk.symm))
      clear hD hO hlD
      refine wpList_nil ?_
      go_wp2_with fail
      refine bodyPost_ret (v := .agg (u8s p).toArray) (results_cell_at rfl _ _ w.heap.size 0 _ _ rfl Try.underlying50 rfl (by rw [u8s_size, HLN.out]; exact info50) (Blk.all HD.out rfl)) rfl ⟨by rw [HP.out], HR.out⟩
/-- Are blocks not too many, nor too long? -/
def fair (L : List It) : Bool := L.all (fun b => decide (b.blk.bytes.length ≤ 300)) && decide (L.length ≤ 100)
theorem fair_no {L : List It} {b : It} {k : Nat} (h : L[k]? = some b) (h3 : 300 < b.blk.bytes.length) : fair L = false := by
  unfold fair
  rw [Bool.and_eq_false_iff]
  refine .inl ?_
  rw [← Bool.not_eq_true, List.all_eq_true]
  intro e
  have := e b (List.mem_of_getElem? h)
  simp at this
  omega
theorem fair_yes {L : List It} (h : ∀ (j : Nat) (b : It), L[j]? = some b → b.blk.bytes.length ≤ 300) : fair L = decide (L.length ≤ 100) := by
  unfold fair
  rw [List.all_eq_true.2 (fun b hb => by
    obtain ⟨j, hj⟩ := List.getElem?_of_mem hb
    exact decide_eq_true (h j b hj)), Bool.true_and]
theorem fair_iff {L : List It} (h : fair L = true) : L.length ≤ 100 ∧ ∀ b ∈ L, b.blk.bytes.length ≤ 300 := by
  simp [fair] at h
  exact ⟨h.2, h.1⟩
theorem fair_any (l : List (It × Value)) (n : Nat) (hn : l.length = n) (hbig : n ≤ 9223372036854775807) (sv : Value) (w : World) (h : ItemsAt w sv l) : Calls Try.prog 9 #[sv] w fun e w' => e = .returned (.bool (fair (l.map (·.1)))) ∧ w = w' := by
  rcases Nat.eq_zero_or_pos n with rfl | hpos
  · obtain rfl : l = [] := List.eq_nil_of_length_eq_zero hn
    obtain ⟨a, cap, rfl, -⟩ := h
    clear hn
    go_enter Try.func9, Try.ntmps9
    go_wp2_with fail
    go_loopg [3] 0 (fun q i wr => i = .int .i64 0 ∧ wr = w)
    case atStart => exact ⟨rfl, rfl⟩
    case round =>
      obtain ⟨rfl, rfl⟩ := hrel
      go_wp2_with fail
      go_ret
      exact ⟨rfl, rfl⟩
  obtain ⟨g, o, cap, rfl, -, hg, hc⟩ := h.has (by omega)
  rw [hn]
  have HN := Lib.hid hn
  have HC := Lib.hid hc
  clear hn hc hg h
  go_enter Try.func9, Try.ntmps9
  go_wp2_with fail
  go_loopg [3] n (fun q i wr => ∃ k : Nat, n - k ≤ q ∧ k ≤ n ∧ i = .int .i64 k ∧ (∀ j x, j < k → l[j]? = some x → x.1.blk.bytes.length ≤ 300) ∧ wr = w)
  case atStart => exact ⟨0, by omega, by omega, rfl, fun j x hj => by omega, rfl⟩
  case round =>
    obtain ⟨k, hq, hk, rfl, hall, rfl⟩ := hrel
    have HALL := Lib.hid hall
    clear hall
    by_cases hlt : k < n
    · obtain ⟨x, hx⟩ : ∃ x, l[k]? = some x := ⟨_, List.getElem?_eq_getElem (by have := HN.out; omega)⟩
      obtain ⟨b, bv⟩ := x
      obtain ⟨x1, x2, x3⟩ := HC.out k _ hx
      obtain ⟨ba, bc, hbv⟩ := x2.len
      simp only at hbv x1 x3
      obtain ⟨bn, hbn⟩ : ∃ bn, b.blk.bytes.length = bn := ⟨_, rfl⟩
      rw [hbn] at hbv
      subst hbv
      have c35 := x3 37 (by rw [It.arr_size x1]; decide)
      have e35 : (b.arr (.slice ba bn bc))[37]'(by rw [It.arr_size x1]; decide) = .slice ba bn bc := by
        have := Bk.at35 x1.b (.slice ba bn bc)
        simp only [It.arr, It.cells, List.getElem_toArray]
        have h2 := Bk.cells_length x1.b (.slice ba bn bc)
        rw [List.getElem?_eq_getElem (by omega)] at this
        simpa using this
      rw [e35] at c35
      have gk : decide ((k : Int) < (n : Int)) = true := decide_eq_true (by omega)
      have gw : IntKind.i64.wrap ((k : Int) + 1) = (k : Int) + 1 := by rw [IntKind.wrap_i64]; omega
      have HX := Lib.hid hx
      have HBN := Lib.hid hbn
      clear e35 x1 x2 x3 hx hbn
      by_cases h3 : 300 < bn
      · have g3 : decide (300 < (bn : Int)) = true := decide_eq_true (by omega)
        go_wp2_with fail
        go_ret
        exact ⟨ret_bool (fair_no (k := k) (b := b) (by rw [List.getElem?_map, HX.out]; rfl) (by rw [HBN.out]; exact h3)).symm, rfl⟩
      · have g3 : decide (300 < (bn : Int)) = false := decide_eq_false (by omega)
        go_wp2_with fail
        go_roundg (n - (k + 1))
        case measure => omega
        case rel => exact ⟨k + 1, by omega, by omega, by go_num, fun j x hj e => by
          rcases Nat.lt_succ_iff_lt_or_eq.1 hj with hj | rfl
          · exact HALL.out j x hj e
          · rw [HX.out] at e
            cases e
            show b.blk.bytes.length ≤ 300
            have := HBN.out
            omega, rfl⟩
    · obtain rfl : k = n := by omega
      have gk : decide ((k : Int) < (k : Int)) = false := decide_eq_false (by omega)
      go_wp2_with fail
      go_ret
      refine ⟨ret_bool ?_, rfl⟩
      rw [fair_yes (fun j b hj => by
        rw [List.getElem?_map] at hj
        cases hq : l[j]? with
        | none => rw [hq] at hj; cases hj
        | some x =>
          rw [hq] at hj
          cases hj
          exact HALL.out j x (by have := (List.getElem?_eq_some_iff.1 hq).1; have := HN.out; omega) hq), List.length_map, HN.out]
      by_cases h : k ≤ 100
      · rw [decide_eq_true h, decide_eq_true (by omega)]
      · rw [decide_eq_false h, decide_eq_false (by omega)]

/-- An image's block, and its item; a mark alone. -/
def imgB (id v : Int) : Bk := ⟨1, id, rp 32 v, 0, [], 0, zeros 8⟩
def imgI (id v : Int) : It := ⟨(1, id), imgB id v⟩
def markI (k id : Int) : It := ⟨(k, id), Bk.none⟩
theorem built57i (id v : Int) : Try.prog.built 57 [(0, .int .i64 1), (1, .int .i64 id), (2, .agg (u8s (rp 32 v)).toArray)] = some ((imgB id v).arr (.slice none 0 0)) := by kernel_rfl
theorem built72i (id v : Int) : Try.prog.built 72 [(0, .agg #[.int .i64 1, .int .i64 id]), (1, .agg ((imgB id v).arr (.slice none 0 0)))] = some ((imgI id v).arr (.slice none 0 0)) := by kernel_rfl
theorem built72m (k id : Int) : Try.prog.built 72 [(0, .agg #[.int .i64 k, .int .i64 id])] = some ((markI k id).arr (.slice none 0 0)) := by kernel_rfl
theorem built70 (k i : Int) : Try.prog.built 70 [(0, .int .i64 k), (1, .int .i64 i)] = some #[.int .i64 k, .int .i64 i] := by kernel_rfl
theorem zeros_small (n : Nat) : ∀ x ∈ zeros n, Small x := fun x hx => by
  rw [List.eq_of_mem_replicate hx]
  exact small0
theorem imgI_wf {id v : Int} (h : Small id) (hv : Byte v) : (imgI id v).Wf := ⟨small1, h, ⟨small1, h, small0, small0, by simp [imgI, imgB, rp], (fun x hx => by rw [List.eq_of_mem_replicate (show x ∈ List.replicate 32 v from hx)]; exact hv), Nat.zero_le _, (fun x hx => by cases hx), zeros_length 8, zeros_small 8⟩⟩
theorem markI_wf {k id : Int} (h : Small k) (h2 : Small id) : (markI k id).Wf := ⟨h, h2, none_wf⟩
theorem imgI_ok {id v : Int} (h : 0 ≤ id ∧ id < 64) : (imgI id v).ok = true := by
  have h1 : okMark (1, id) = true := okMark_iff.2 ⟨by simp, by simp, h.1, h.2, by intro e; simp at e⟩
  have h2 : within id 0 63 = true := by simp [within]; omega
  simp [It.ok, It.fits, It.has, imgI, imgB, h1, hasBlock, Bk.good, Bk.plain, h2]
theorem markI_ok {k id : Int} (hk : k = 4 ∨ k = 5) (h : 0 ≤ id ∧ id < 64) : (markI k id).ok = true := by
  have h1 : okMark (k, id) = true := okMark_iff.2 ⟨by simp only; omega, by simp only; omega, h.1, h.2, by intro e; simp only at e; omega⟩
  have h3 : hasBlock k = false := by simp [hasBlock]; omega
  simp [It.ok, It.fits, It.has, markI, h1, h3, (isZ_iff Bk.none).2 rfl]
set_option maxRecDepth 100000 in
theorem image_any (id v : Int) (h : Small id) (hv : Byte v) (w : World) : Calls Try.prog 28 #[.int .i64 id, .int .u8 v] w fun e w' => e = .returned (.agg ((imgI id v).arr (.slice none 0 0))) ∧ Below w.heap.size w w' := by
  have HL := Lib.hid fun w => leaf_any v w
  have HW := Lib.hid (imgI_wf h hv)
  clear h hv
  go_enter Try.func28, Try.ntmps28
  go_upto_region 0 with fail
  refine wp_region_lit ?_
  refine alloc_g zero72b rfl ?_
  intro w1 hA hb hl
  try simp only [Act.put, List.setIfInBounds_toArray, List.set_cons_succ, List.set_cons_zero]
  have HA := Lib.hid hA
  have HB := Lib.hid hb
  have HLT := Lib.hid hl
  clear hA hb hl
  refine wpList_nil ?_
  go_upto_region 1 with fail
  refine wp_region_lit ?_
  refine takeL (.int .i64 id) rfl (by go_simp) ?_
  try simp only [Act.put, List.setIfInBounds_toArray, List.set_cons_succ, List.set_cons_zero]
  refine takeL (.agg #[.int .i64 1, .int .i64 id]) rfl (exec_build _ _ _ _ 70 _ rfl #[(0, .int .i64 1), (1, .int .i64 id)] (by simp only [List.map_toArray, List.map_cons, List.map_nil]; rfl) _ (run_build w1 70 _ _ (built70 _ _))) ?_
  try simp only [Act.put, List.setIfInBounds_toArray, List.set_cons_succ, List.set_cons_zero]
  refine takeL (.int .i64 id) rfl (by go_simp) ?_
  try simp only [Act.put, List.setIfInBounds_toArray, List.set_cons_succ, List.set_cons_zero]
  refine takeL (.int .u8 v) rfl (by go_simp) ?_
  try simp only [Act.put, List.setIfInBounds_toArray, List.set_cons_succ, List.set_cons_zero]
  refine wpList_op rfl fun K hK => ?_
  go_simp
  refine (HL.out _).mono ?_
  rintro e w2 ⟨rfl, hb⟩
  have HB2 := Lib.hid (stay HB.out hb)
  have HA2 := Lib.hid (HA.out.below hb HLT.out)
  clear hb HA HB HL
  refine hK _ _ ?_
  clear hK K
  try simp only [Act.put, List.setIfInBounds_toArray, List.set_cons_succ, List.set_cons_zero]
  refine takeL (.agg ((imgB id v).arr (.slice none 0 0))) rfl (exec_build _ _ _ _ 57 _ rfl #[(0, .int .i64 1), (1, .int .i64 id), (2, .agg (u8s (rp 32 v)).toArray)] (by simp only [List.map_toArray, List.map_cons, List.map_nil]; rfl) _ (run_build w2 57 _ _ (built57i _ _))) ?_
  try simp only [Act.put, List.setIfInBounds_toArray, List.set_cons_succ, List.set_cons_zero]
  refine takeL (.agg ((imgI id v).arr (.slice none 0 0))) rfl (exec_build _ _ _ _ 72 _ rfl #[(0, .agg #[.int .i64 1, .int .i64 id]), (1, .agg ((imgB id v).arr (.slice none 0 0)))] (by simp only [List.map_toArray, List.map_cons, List.map_nil]; rfl) _ (run_build w2 72 _ _ (built72i _ _))) ?_
  try simp only [Act.put, List.setIfInBounds_toArray, List.set_cons_succ, List.set_cons_zero]
  refine store_all (cs := (imgI id v).arr (.slice none 0 0)) HA2.out (same72 It.none_wf HW.out _ _) (info72s HW.out _) (It.arr_one rfl) rfl rfl rfl ?_
  intro w3 hD hO hlD
  try simp only [Act.put, List.setIfInBounds_toArray, List.set_cons_succ, List.set_cons_zero]
  have HB3 := Lib.hid (HB2.out.trans (hO.below HB2.out.size fun k hk => Nat.le_of_eq hk.symm))
  refine wpList_nil ?_
  go_wp2_with fail
  refine bodyPost_ret (v := .agg ((imgI id v).arr (.slice none 0 0))) (results_cell_at rfl _ _ w.heap.size 0 _ _ rfl Try.underlying72 rfl (info72s HW.out _) (hD.all rfl)) rfl ⟨rfl, HB3.out⟩

end Go.Proofs.Ytbhaifdhmfmeoaa
