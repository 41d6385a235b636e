/- Pages of one byte, lists compared: the statements' own helpers. -/
import Derived.Test.YtaemjglblfencaaGreatDoorFi
namespace Go.Proofs.YtaemjglblfencaaGreatDoor
set_option linter.unusedSimpArgs false
set_option linter.unusedVariables false
open Go.RowKit Kl

theorem ints_any (l m : List Int) (hl : l.length ≤ 1000) (hm : m.length ≤ 1000) (sv tv : Value) (w : World) (h : IntsAt w sv l) (k : IntsAt w tv m) : Calls Tryz.prog 24 #[sv, tv] w fun e w' => e = .returned (.bool (decide (l = m))) ∧ Below w.heap.size w w' := by
  obtain ⟨a, cap, rfl, hc⟩ := h
  obtain ⟨a', cap', rfl, hc'⟩ := k
  have HC := Lib.hid hc
  have HC' := Lib.hid hc'
  clear hc hc'
  by_cases hlen : l.length = m.length
  · obtain ⟨n, hn⟩ : ∃ n, m.length = n := ⟨_, rfl⟩
    have hln := hlen.trans hn
    rw [hn] at hm
    rw [hln, hn]
    have HN := Lib.hid hn
    have HLN := Lib.hid hln
    clear hln hl hlen hn
    go_enter Tryz.func24, Tryz.ntmps24
    go_wp2_with fail
    go_loopg [5] n (fun q i wr => ∃ k : Nat, n - k ≤ q ∧ k ≤ n ∧ i = .int .i64 k ∧ (∀ j, j < k → l[j]? = m[j]?) ∧ Below w.heap.size w wr)
    case atStart => exact ⟨0, by omega, by omega, rfl, fun j hj => by omega, Below.refl _ _⟩
    case round =>
      obtain ⟨k, hg, hk, rfl, heq, hbel⟩ := hrel
      have HE := Lib.hid heq
      have HB := Lib.hid hbel
      clear heq hbel
      by_cases hlt : k < n
      · have h1 := HLN.out
        have h2 := HN.out
        obtain ⟨x, hx⟩ : ∃ x, l[k]? = some x := ⟨_, List.getElem?_eq_getElem (by omega)⟩
        obtain ⟨y, hy⟩ : ∃ y, m[k]? = some y := ⟨_, List.getElem?_eq_getElem (by omega)⟩
        obtain ⟨b, o, rfl, c1⟩ := HC.out k x hx
        obtain ⟨b', o', rfl, c2⟩ := HC'.out k y hy
        have d1 := (HB.out.cell (block_lt_of_cell c1)).trans c1
        have d2 := (HB.out.cell (block_lt_of_cell c2)).trans c2
        have HX := Lib.hid hx
        have HY := Lib.hid hy
        clear hx hy c1 c2 h1 h2
        have hk1 : (k : Int) < (n : Int) := by omega
        have hg1 : decide ((k : Int) < (n : Int)) = true := decide_eq_true hk1
        by_cases hxy : x = y
        · subst hxy
          have e1 : (x != x) = false := by simp
          go_wp2_with fail
          go_quiet (fail)
          go_wp2_with fail
          go_roundg (n - (k + 1))
          case measure => omega
          case rel => exact ⟨k + 1, by omega, by omega, by go_num, fun j hj => by
            by_cases hj2 : j < k
            · exact HE.out j hj2
            · obtain rfl : j = k := by omega
              rw [HX.out, HY.out], drewN_below HB.out _⟩
        · have e1 : (x != y) = true := by simpa using hxy
          have HXY := Lib.hid hxy
          clear hxy
          go_wp2_with fail
          go_quiet (fail)
          go_wp2_with fail
          go_ret
          exact ⟨ret_bool (by
            symm
            refine decide_eq_false fun e => HXY.out ?_
            have := HX.out
            rw [e, HY.out] at this
            exact (Option.some.inj this).symm), drewN_below HB.out _⟩
      · obtain rfl : k = n := by omega
        have hk1 : ¬ (k : Int) < (k : Int) := by omega
        have hg1 : decide ((k : Int) < (k : Int)) = false := decide_eq_false hk1
        go_wp2_with fail
        go_ret
        exact ⟨ret_bool (by
          symm
          refine decide_eq_true (List.ext_getElem? fun j => ?_)
          rcases Nat.lt_or_ge j k with h1 | h1
          · exact HE.out j h1
          · have h2 := HLN.out
            have h3 := HN.out
            rw [List.getElem?_eq_none (by omega), List.getElem?_eq_none (by omega)]), HB.out⟩
  · have HL : Hid (l ≠ m) := Lib.hid fun e => hlen (by rw [e])
    have e1 : ((l.length : Int) != (m.length : Int)) = true := by simp; omega
    have hne : ¬ (l.length : Int) = (m.length : Int) := by omega
    clear hlen
    go_enter Tryz.func24, Tryz.ntmps24
    go_wp2_with fail
    go_ret
    exact ⟨ret_bool (by symm; exact decide_eq_false HL.out), Below.refl _ _⟩

/-- A page of one byte. -/
def leaf (v : Int) : List Int := List.replicate 32 v
theorem leaf_pg {v : Int} (h : Byte v) : Pg (leaf v) := ⟨by simp [leaf], fun y hy => by rw [List.eq_of_mem_replicate hy]; exact h⟩
theorem leaf_len (v : Int) : (leaf v).length = 32 := by simp [leaf]
def fill (v : Int) (k : Nat) : List Int := List.replicate k v ++ zeros (32 - k)
theorem fill_len {v : Int} {k : Nat} (h : k ≤ 32) : (fill v k).length = 32 := by simp [fill, zeros]; omega
theorem fill_at {v : Int} {k : Nat} (h : k < 32) : (fill v k)[k]? = some 0 := by
  unfold fill zeros
  rw [List.getElem?_append_right (by simp), List.length_replicate, Nat.sub_self, List.getElem?_replicate, if_pos (by omega)]
theorem fill_set {v : Int} {k : Nat} (h : k < 32) : (u8s (fill v k)).set k (.int .u8 v) = u8s (fill v (k + 1)) := by
  show ((fill v k).map (Value.int .u8)).set k _ = (fill v (k + 1)).map (Value.int .u8)
  rw [← List.map_set]
  congr 1
  unfold fill zeros
  rw [List.set_append_right _ _ (by simp), List.length_replicate, Nat.sub_self, show 32 - k = (32 - (k + 1)) + 1 by omega, List.replicate_succ, List.set_cons_zero, List.replicate_succ', List.append_assoc]
  rfl
set_option maxRecDepth 100000 in
theorem Leaf_any (v : Int) (w : World) : Calls Tryz.prog 10 #[.int .u8 v] w fun e w' => e = .returned (.agg (u8s (leaf v)).toArray) ∧ Below w.heap.size w w' := by
  have HZ32 := Lib.hid (zeros_length 32)
  go_enter Tryz.func10, Tryz.ntmps10
  go_upto_region 0 with fail
  refine wp_region_lit ?_
  refine alloc_g zero39 rfl ?_
  intro wa hA hb hl
  try simp only [Act.put, List.setIfInBounds_toArray, List.set_cons_succ, List.set_cons_zero]
  refine wpList_nil ?_
  go_upto_region 1 with fail
  refine wp_region_lit ?_
  refine alloc_g zero39 rfl ?_
  intro wb hA2 hb2 hl2
  try simp only [Act.put, List.setIfInBounds_toArray, List.set_cons_succ, List.set_cons_zero]
  refine wpList_nil ?_
  have HBW := Lib.hid (hb.trans (hb2.mono hb.size))
  have H2 : Hid (Blk wb w.heap.size (u8s (zeros 32))) := Lib.hid (by simpa using hA.below hb2 hA.lt)
  have H3 : Hid (Blk wb wa.heap.size (u8s (fill v 0))) := Lib.hid (by simpa [fill] using hA2)
  have HG : Hid (w.heap.size < wa.heap.size) := Lib.hid hl
  clear hA hb hl hA2 hb2 hl2
  generalize wa.heap.size = g3 at *
  clear wa
  go_wp2_with fail
  go_loopg [4] 32 (fun q i wr => ∃ k : Nat, 32 - k ≤ q ∧ k ≤ 32 ∧ i = .int .i64 k ∧ Blk wr g3 (u8s (fill v k)) ∧ Blk wr w.heap.size (u8s (zeros 32)) ∧ Below w.heap.size w wr)
  case atStart => exact ⟨0, by omega, by omega, rfl, H3.out, H2.out, HBW.out⟩
  case round =>
    obtain ⟨k, hq, hk, rfl, h3, h2, hb⟩ := hrel
    have H3 := Lib.hid h3
    have H2 := Lib.hid h2
    have HB := Lib.hid hb
    by_cases hlt : k < 32
    · have hk1 : (k : Int) < 32 := by omega
      have c0 := h3.cell (i := k) (v := .int .u8 0) (by show ((fill v k).map (Value.int .u8))[k]? = _; rw [List.getElem?_map, fill_at hlt]; rfl)
      have frz := h3.frozen
      clear h3 h2 hb
      go_wp2_with fail
      go_roundg (32 - (k + 1))
      case measure => omega
      case rel =>
        refine ⟨k + 1, by omega, by omega, by go_num, ?_, H2.out.setOther (a := ⟨g3, k, none⟩) (by have := HG.out; simp only; omega) _, ?_⟩
        · rw [← fill_set hlt]
          exact H3.out.set k _
        · exact HB.out.setCell (by have := HG.out; simp only; omega) _
    · obtain rfl : k = 32 := by omega
      clear h3 h2 hb
      have hk1 : ¬ ((32 : Nat) : Int) < 32 := by decide
      have e32 : fill v 32 = leaf v := by simp [fill, leaf, zeros]
      rw [e32] at H3
      have HLF := Lib.hid (leaf_len v)
      go_upto_region 6 with fail
      refine wp_region_lit ?_
      refine load39 (cs := (u8s (leaf v)).toArray) (Blk.all H3.out rfl) (by rw [u8s_size, HLF.out]) rfl rfl ?_
      try simp only [Act.put, List.setIfInBounds_toArray, List.set_cons_succ, List.set_cons_zero]
      refine store_all (cs := (u8s (leaf v)).toArray) H2.out (by simp only [u8s_size, List.size_toArray, List.length_map, HLF.out, HZ32.out]) (by rw [u8s_size, HLF.out]; exact info39) (u8s_one _) rfl rfl rfl ?_
      intro w2 hD hO hlD
      try simp only [Act.put, List.setIfInBounds_toArray, List.set_cons_succ, List.set_cons_zero]
      refine wpList_nil ?_
      go_wp2_with fail
      exact bodyPost_ret (v := .agg (u8s (leaf v)).toArray) (results_cell_at rfl _ _ w.heap.size 0 _ _ rfl Tryz.underlying39 rfl (by rw [u8s_size, HLF.out]; exact info39) (Blk.all hD rfl)) rfl ⟨rfl, HB.out.trans (hO.below HB.out.size (fun k hk => by rw [hk]; exact Nat.le_refl _))⟩

end Go.Proofs.YtaemjglblfencaaGreatDoor
