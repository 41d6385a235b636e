/- Gj: texts of elder seats turned: what the stage needs of them. -/
import Derived.Test.YtmlniannilnmhaaGreatDoorGi
namespace Go.Proofs.YtmlniannilnmhaaGreatDoor
set_option linter.unusedSimpArgs false
set_option linter.unusedVariables false
open Go.RowKit

set_option maxRecDepth 100000 in
theorem ints_any (l m : List Int) (hl : l.length ≤ 1000) (hm : m.length ≤ 1000) (sv tv : Value) (w : World) (h : IntsAt w sv l) (k : IntsAt w tv m) : Calls Tryz.prog 22 #[sv, tv] w fun e w' => e = .returned (.bool (decide (l = m))) ∧ Below w.heap.size w w' := by
  obtain ⟨a, cap, rfl, hc⟩ := h
  obtain ⟨a', cap', rfl, hc'⟩ := k
  have HC := Lib.hid hc
  have HC' := Lib.hid hc'
  clear hc hc'
  by_cases hlen : l.length = m.length
  · obtain ⟨n, hn⟩ : ∃ n, m.length = n := ⟨_, rfl⟩
    have hln := hlen.trans hn
    rw [hn] at hm
    rw [hln, hn]
    have HN := Lib.hid hn
    have HLN := Lib.hid hln
    clear hln hl hlen hn
    go_enter Tryz.func22, Tryz.ntmps22
    go_wp2_with fail
    go_loopg [5] n (fun q i wr => ∃ k : Nat, n - k ≤ q ∧ k ≤ n ∧ i = .int .i64 k ∧ (∀ j, j < k → l[j]? = m[j]?) ∧ Below w.heap.size w wr)
    case atStart => exact ⟨0, by omega, by omega, rfl, fun j hj => by omega, Below.refl _ _⟩
    case round =>
      obtain ⟨k, hg, hk, rfl, heq, hbel⟩ := hrel
      have HE := Lib.hid heq
      have HB := Lib.hid hbel
      clear heq hbel
      by_cases hlt : k < n
      · have h1 := HLN.out
        have h2 := HN.out
        obtain ⟨x, hx⟩ : ∃ x, l[k]? = some x := ⟨_, List.getElem?_eq_getElem (by omega)⟩
        obtain ⟨y, hy⟩ : ∃ y, m[k]? = some y := ⟨_, List.getElem?_eq_getElem (by omega)⟩
        obtain ⟨b, o, rfl, c1⟩ := HC.out k x hx
        obtain ⟨b', o', rfl, c2⟩ := HC'.out k y hy
        have d1 := (HB.out.cell (block_lt_of_cell c1)).trans c1
        have d2 := (HB.out.cell (block_lt_of_cell c2)).trans c2
        have HX := Lib.hid hx
        have HY := Lib.hid hy
        clear hx hy c1 c2 h1 h2
        have hk1 : (k : Int) < (n : Int) := by omega
        have hg1 : decide ((k : Int) < (n : Int)) = true := decide_eq_true hk1
        by_cases hxy : x = y
        · subst hxy
          have e1 : (x != x) = false := by simp
          go_wp2_with fail
          go_quiet (fail)
          go_wp2_with fail
          go_roundg (n - (k + 1))
          case measure => omega
          case rel => exact ⟨k + 1, by omega, by omega, by go_num, fun j hj => by
            by_cases hj2 : j < k
            · exact HE.out j hj2
            · obtain rfl : j = k := by omega
              rw [HX.out, HY.out], drewN_below HB.out _⟩
        · have e1 : (x != y) = true := by simpa using hxy
          have HXY := Lib.hid hxy
          clear hxy
          go_wp2_with fail
          go_quiet (fail)
          go_wp2_with fail
          go_ret
          exact ⟨ret_bool (by
            symm
            refine decide_eq_false fun e => HXY.out ?_
            have := HX.out
            rw [e, HY.out] at this
            exact (Option.some.inj this).symm), drewN_below HB.out _⟩
      · obtain rfl : k = n := by omega
        have hk1 : ¬ (k : Int) < (k : Int) := by omega
        have hg1 : decide ((k : Int) < (k : Int)) = false := decide_eq_false hk1
        go_wp2_with fail
        go_ret
        exact ⟨ret_bool (by
          symm
          refine decide_eq_true (List.ext_getElem? fun j => ?_)
          rcases Nat.lt_or_ge j k with h1 | h1
          · exact HE.out j h1
          · have h2 := HLN.out
            have h3 := HN.out
            rw [List.getElem?_eq_none (by omega), List.getElem?_eq_none (by omega)]), HB.out⟩
  · have HL : Hid (l ≠ m) := Lib.hid fun e => hlen (by rw [e])
    have e1 : ((l.length : Int) != (m.length : Int)) = true := by simp; omega
    have hne : ¬ (l.length : Int) = (m.length : Int) := by omega
    clear hlen
    go_enter Tryz.func22, Tryz.ntmps22
    go_wp2_with fail
    go_ret
    exact ⟨ret_bool (by symm; exact decide_eq_false HL.out), Below.refl _ _⟩
theorem ItemsAt.of_row {w : World} {g n cap : Nat} {l : List (It × Value)} (h : Blk w g (itCells l)) (hn : l.length = n) (hc : n ≤ cap) (hw : ∀ x ∈ l, x.1.Wf ∧ BytesAt w x.2 x.1.blk.bytes) : ItemsAt w (.slice (some ⟨g, 0, none⟩) n cap) l := by
  subst hn
  refine ⟨_, cap, rfl, hc, fun i x hx => ?_⟩
  obtain ⟨h1, h2⟩ := hw x (List.mem_of_getElem? hx)
  refine ⟨h1, h2, g, 0, rfl, fun j hj => h.cell ?_⟩
  rw [It.arr_size h1] at hj
  rw [Nat.zero_add, itCells_at (fun y hy => (hw y hy).1) hj, hx]
  show (x.1.cells x.2)[j]? = _
  rw [List.getElem?_eq_getElem (by rw [It.cells_length h1]; exact hj)]
  rfl
theorem Blk.grown {w w' : World} {b : Nat} {l : List Value} {row : Option Nat} (h : Blk w b l) (hg : w.grownBy w' row) (hr : ∀ k, row = some k → k ≠ b) : Blk w' b l := h.of_block (hg.block b h.lt fun e => hr b e.symm rfl)
theorem MarksAt.grown {w w' : World} {sv : Value} {l : List Mk} {row : Option Nat} {B : Nat} (h : MarksAt w sv l) (hg : w.grownBy w' row) (hf : Fresh B sv) (hr : ∀ k, row = some k → k < B) : MarksAt w' sv l := by
  obtain ⟨a, cap, e, hc⟩ := h
  refine ⟨a, cap, e, fun i x hx => ?_⟩
  obtain ⟨b, o, e2, h1, h2⟩ := hc i x hx
  have hb := hg.block b (block_lt_of_cell h1) fun e3 => by
    have h3 := hr b e3.symm
    have h4 := hf b o _ _ (by rw [e, e2])
    omega
  exact ⟨b, o, e2, by rw [← h1]; simp only [World.cell?, hb], by rw [← h2]; simp only [World.cell?, hb]⟩
/-- A variable that holds no byte, and few cells. -/
structure NoIt (L : List Value) : Prop where
  few : L.length ≤ 46
  byte : ∀ x, (Value.int .u8 x) ∉ L
theorem Blk.has_cell {w : World} {g : Nat} {L : List Value} (h : Blk w g L) {i : Nat} {v : Value} (hc : w.cell? ⟨g, i, none⟩ = some v) : L[i]? = some v := by
  obtain ⟨t, ht⟩ := h
  rw [cell_of_row w g i _ t _ ht] at hc
  simpa using hc
theorem ItemsAt.only {w w' : World} {sv : Value} {l : List (It × Value)} {g : Nat} {L : List Value} (h : ItemsAt w sv l) (hb : Blk w g L) (hL : NoIt L) (ho : Only (fun k => k = g) w w') : ItemsAt w' sv l := by
  obtain ⟨a, cap, e, hcap, hc⟩ := h
  refine ⟨a, cap, e, hcap, fun i x hx => ?_⟩
  obtain ⟨h1, h2, b, o, h3, h4⟩ := hc i x hx
  have hne : b ≠ g := by
    rintro rfl
    have := hb.has_cell (h4 46 (by rw [It.arr_size h1]; decide))
    have := (List.getElem?_eq_some_iff.1 this).1
    have := hL.few
    omega
  have hbb := ho.block b (h4.lt (by rw [It.arr_size h1]; decide)) hne
  refine ⟨h1, ?_, b, o, h3, fun j hj => ?_⟩
  · by_cases h0 : x.1.blk.bytes.length = 0
    · obtain ⟨a, cap, e, _⟩ := h2
      exact ⟨a, cap, e, fun i z hz => by rw [List.eq_nil_of_length_eq_zero h0] at hz; simp at hz⟩
    · refine h2.only ho fun b2 o2 n2 c2 e2 => ?_
      rintro rfl
      obtain ⟨b3, o3, c3, e3, hc3⟩ := h2.has (by omega)
      rw [e2] at e3
      cases e3
      have := hb.has_cell (hc3 0 x.1.blk.bytes[0] (by simp))
      exact hL.byte _ (List.mem_of_getElem? this)
  · rw [← h4 j hj]
    simp only [World.cell?, hbb]
def rp (n : Nat) (v : Int) : List Int := List.replicate n v
theorem small1 : Small 1 := ⟨by decide, by decide⟩
theorem zero96z : (Tryz.prog.info? 96).bind (·.zero) = some (.agg (u8s (zeros 32)).toArray) := by kernel_rfl
theorem filled32_set (v : Int) (k : Nat) (h : k < 32) : (List.replicate k v ++ zeros (32 - k)).set k v = List.replicate (k + 1) v ++ zeros (32 - (k + 1)) := by
  unfold zeros
  rw [List.set_append_right _ _ (by simp), show 32 - k = (32 - (k + 1)) + 1 by omega, List.replicate_succ]
  simp only [List.length_replicate, Nat.sub_self, List.set_cons_zero]
  rw [List.replicate_succ', List.append_assoc]
  rfl
theorem filled32_at (v : Int) (k : Nat) (h : k < 32) : (u8s (List.replicate k v ++ zeros (32 - k)))[k]? = some (.int .u8 0) := by
  rw [List.getElem?_map]
  unfold zeros
  rw [List.getElem?_append_right (by simp)]
  simp only [List.length_replicate, Nat.sub_self]
  rw [List.getElem?_replicate, if_pos (by omega)]
  rfl
set_option maxRecDepth 100000 in
theorem leaf_any (v : Int) (w : World) : Calls Tryz.prog 56 #[.int .u8 v] w fun e w' => e = .returned (.agg (u8s (rp 32 v)).toArray) ∧ Below w.heap.size w w' := by
  go_enter Tryz.func56, Tryz.ntmps56
  go_upto_region 0 with fail
  refine wp_region_lit ?_
  refine alloc_g zero96z rfl ?_
  intro w1 hA hb hl
  try simp only [Act.put, List.setIfInBounds_toArray, List.set_cons_succ, List.set_cons_zero]
  have HA := Lib.hid hA
  have HB := Lib.hid hb
  have HL := Lib.hid hl
  clear hA hb hl
  refine wpList_nil ?_
  go_upto_region 1 with fail
  refine wp_region_lit ?_
  refine alloc_g zero96z rfl ?_
  intro w2 hA hb hl
  try simp only [Act.put, List.setIfInBounds_toArray, List.set_cons_succ, List.set_cons_zero]
  have HA2 := Lib.hid (HA.out.below hb HL.out)
  have HC := Lib.hid hA
  have HB2 := Lib.hid (stay HB.out hb)
  obtain ⟨t, ht⟩ : ∃ t, w1.heap.size = t := ⟨_, rfl⟩
  rw [ht] at HC HL ⊢
  clear hA hb hl HA HB ht
  refine wpList_nil ?_
  go_wp2_with fail
  go_loopg [4] 32 (fun q i wr => ∃ k : Nat, 32 - k ≤ q ∧ k ≤ 32 ∧ i = .int .i64 k ∧ Blk wr w.heap.size (u8s (zeros 32)) ∧ Blk wr t (u8s (List.replicate k v ++ zeros (32 - k))) ∧ Below w.heap.size w wr)
  case atStart => exact ⟨0, by omega, by omega, rfl, HA2.out, HC.out, HB2.out⟩
  case round =>
    obtain ⟨k, hq, hk, rfl, h1, h2, h3⟩ := hrel
    have H1 := Lib.hid h1
    have H2 := Lib.hid h2
    have H3 := Lib.hid h3
    clear h1 h2 h3 HA2 HC HB2
    by_cases hlt : k < 32
    · have c0 := H2.out.cell (filled32_at v k hlt)
      have f0 := H2.out.frozen k
      have gk : decide ((k : Int) < 32) = true := decide_eq_true (by omega)
      have HR : Hid (Blk (wr.setCell ⟨t, k, none⟩ (.int .u8 v)) t (u8s (List.replicate (k + 1) v ++ zeros (32 - (k + 1))))) := Lib.hid (by
        have := H2.out.set k (.int .u8 v)
        rw [show (u8s (List.replicate k v ++ zeros (32 - k))).set k (.int .u8 v) = u8s ((List.replicate k v ++ zeros (32 - k)).set k v) by simp [List.map_set], filled32_set v k hlt] at this
        exact this)
      have HR1 : Hid (Blk (wr.setCell ⟨t, k, none⟩ (.int .u8 v)) w.heap.size (u8s (zeros 32))) := Lib.hid (H1.out.setOther (by have := HL.out; simp only; omega) _)
      have HR3 : Hid (Below w.heap.size w (wr.setCell ⟨t, k, none⟩ (.int .u8 v))) := Lib.hid (H3.out.setCell (by have := HL.out; simp only; omega) _)
      go_wp2_with fail
      go_roundg (32 - (k + 1))
      case measure => omega
      case rel => exact ⟨k + 1, by omega, by omega, by go_num, HR1.out, HR.out, HR3.out⟩
    · obtain rfl : k = 32 := by omega
      rw [Nat.sub_self, show zeros 0 = [] from rfl, List.append_nil] at H2
      have HLN : Hid ((rp 32 v).length = 32) := Lib.hid (by simp [rp])
      have HZ : Hid ((zeros 32).length = 32) := Lib.hid (zeros_length 32)
      have hrp : List.replicate 32 v = rp 32 v := rfl
      rw [hrp] at H2
      obtain ⟨p, hp⟩ : ∃ p, rp 32 v = p := ⟨_, rfl⟩
      rw [hp] at H2 HLN
      have HP := Lib.hid hp
      clear hp hlt hrp
      go_upto_region 6 with fail
      refine wp_region_lit ?_
      refine load96 (cs := (u8s p).toArray) (Blk.all H2.out rfl) (by rw [u8s_size, HLN.out]) rfl rfl ?_
      try simp only [Act.put, List.setIfInBounds_toArray, List.set_cons_succ, List.set_cons_zero]
      refine store_all (cs := (u8s p).toArray) H1.out (by rw [u8s_size, HLN.out, List.length_map, HZ.out]) (by rw [u8s_size, HLN.out]; exact info96) (u8s_one _) rfl rfl rfl ?_
      intro w9 hD hO hlD
      try simp only [Act.put, List.setIfInBounds_toArray, List.set_cons_succ, List.set_cons_zero]
      have HD := Lib.hid hD
      have HR := Lib.hid (H3.out.trans (hO.below H3.out.size fun k hk => Nat.le_of_eq hk.symm))
      clear hD hO hlD
      refine wpList_nil ?_
      go_wp2_with fail
      refine bodyPost_ret (v := .agg (u8s p).toArray) (results_cell_at rfl _ _ w.heap.size 0 _ _ rfl Tryz.underlying96 rfl (by rw [u8s_size, HLN.out]; exact info96) (Blk.all HD.out rfl)) rfl ⟨by rw [HP.out], HR.out⟩
/-- Are blocks not too many, nor too long? -/
def fair (L : List It) : Bool := L.all (fun b => decide (b.blk.bytes.length ≤ 300)) && decide (L.length ≤ 100)
theorem fair_no {L : List It} {b : It} {k : Nat} (h : L[k]? = some b) (h3 : 300 < b.blk.bytes.length) : fair L = false := by
  unfold fair
  rw [Bool.and_eq_false_iff]
  refine .inl ?_
  rw [← Bool.not_eq_true, List.all_eq_true]
  intro e
  have := e b (List.mem_of_getElem? h)
  simp at this
  omega
theorem fair_yes {L : List It} (h : ∀ (j : Nat) (b : It), L[j]? = some b → b.blk.bytes.length ≤ 300) : fair L = decide (L.length ≤ 100) := by
  unfold fair
  rw [List.all_eq_true.2 (fun b hb => by
    obtain ⟨j, hj⟩ := List.getElem?_of_mem hb
    exact decide_eq_true (h j b hj)), Bool.true_and]
theorem fair_any (l : List (It × Value)) (n : Nat) (hn : l.length = n) (hbig : n ≤ 9223372036854775807) (sv : Value) (w : World) (h : ItemsAt w sv l) : Calls Tryz.prog 31 #[sv] w fun e w' => e = .returned (.bool (fair (l.map (·.1)))) ∧ w = w' := by
  rcases Nat.eq_zero_or_pos n with rfl | hpos
  · obtain rfl : l = [] := List.eq_nil_of_length_eq_zero hn
    obtain ⟨a, cap, rfl, -⟩ := h
    clear hn
    go_enter Tryz.func31, Tryz.ntmps31
    go_wp2_with fail
    go_loopg [3] 0 (fun q i wr => i = .int .i64 0 ∧ wr = w)
    case atStart => exact ⟨rfl, rfl⟩
    case round =>
      obtain ⟨rfl, rfl⟩ := hrel
      go_wp2_with fail
      go_ret
      exact ⟨rfl, rfl⟩
  obtain ⟨g, o, cap, rfl, -, hg, hc⟩ := h.has (by omega)
  rw [hn]
  have HN := Lib.hid hn
  have HC := Lib.hid hc
  clear hn hc hg h
  go_enter Tryz.func31, Tryz.ntmps31
  go_wp2_with fail
  go_loopg [3] n (fun q i wr => ∃ k : Nat, n - k ≤ q ∧ k ≤ n ∧ i = .int .i64 k ∧ (∀ j x, j < k → l[j]? = some x → x.1.blk.bytes.length ≤ 300) ∧ wr = w)
  case atStart => exact ⟨0, by omega, by omega, rfl, fun j x hj => by omega, rfl⟩
  case round =>
    obtain ⟨k, hq, hk, rfl, hall, rfl⟩ := hrel
    have HALL := Lib.hid hall
    clear hall
    by_cases hlt : k < n
    · obtain ⟨x, hx⟩ : ∃ x, l[k]? = some x := ⟨_, List.getElem?_eq_getElem (by have := HN.out; omega)⟩
      obtain ⟨b, bv⟩ := x
      obtain ⟨x1, x2, x3⟩ := HC.out k _ hx
      obtain ⟨ba, bc, hbv⟩ := x2.len
      simp only at hbv x1 x3
      obtain ⟨bn, hbn⟩ : ∃ bn, b.blk.bytes.length = bn := ⟨_, rfl⟩
      rw [hbn] at hbv
      subst hbv
      have c35 := x3 37 (by rw [It.arr_size x1]; decide)
      have e35 : (b.arr (.slice ba bn bc))[37]'(by rw [It.arr_size x1]; decide) = .slice ba bn bc := by
        have := Bk.at35 x1.b (.slice ba bn bc)
        simp only [It.arr, It.cells, List.getElem_toArray]
        have h2 := Bk.cells_length x1.b (.slice ba bn bc)
        rw [List.getElem?_eq_getElem (by omega)] at this
        simpa using this
      rw [e35] at c35
      have gk : decide ((k : Int) < (n : Int)) = true := decide_eq_true (by omega)
      have gw : IntKind.i64.wrap ((k : Int) + 1) = (k : Int) + 1 := by rw [IntKind.wrap_i64]; omega
      have HX := Lib.hid hx
      have HBN := Lib.hid hbn
      clear e35 x1 x2 x3 hx hbn
      by_cases h3 : 300 < bn
      · have g3 : decide (300 < (bn : Int)) = true := decide_eq_true (by omega)
        go_wp2_with fail
        go_ret
        exact ⟨ret_bool (fair_no (k := k) (b := b) (by rw [List.getElem?_map, HX.out]; rfl) (by rw [HBN.out]; exact h3)).symm, rfl⟩
      · have g3 : decide (300 < (bn : Int)) = false := decide_eq_false (by omega)
        go_wp2_with fail
        go_roundg (n - (k + 1))
        case measure => omega
        case rel => exact ⟨k + 1, by omega, by omega, by go_num, fun j x hj e => by
          rcases Nat.lt_succ_iff_lt_or_eq.1 hj with hj | rfl
          · exact HALL.out j x hj e
          · rw [HX.out] at e
            cases e
            show b.blk.bytes.length ≤ 300
            have := HBN.out
            omega, rfl⟩
    · obtain rfl : k = n := by omega
      have gk : decide ((k : Int) < (k : Int)) = false := decide_eq_false (by omega)
      go_wp2_with fail
      go_ret
      refine ⟨ret_bool ?_, rfl⟩
      rw [fair_yes (fun j b hj => by
        rw [List.getElem?_map] at hj
        cases hq : l[j]? with
        | none => rw [hq] at hj; cases hj
        | some x =>
          rw [hq] at hj
          cases hj
          exact HALL.out j x (by have := (List.getElem?_eq_some_iff.1 hq).1; have := HN.out; omega) hq), List.length_map, HN.out]
      by_cases h : k ≤ 100
      · rw [decide_eq_true h, decide_eq_true (by omega)]
      · rw [decide_eq_false h, decide_eq_false (by omega)]
/-- An image's block, and its item; a mark alone. -/
def imgB (id v : Int) : Bk := ⟨1, id, rp 32 v, 0, [], 0, zeros 8⟩
def imgI (id v : Int) : It := ⟨(1, id), imgB id v⟩
theorem built100i (id v : Int) : Tryz.prog.built 100 [(0, .int .i64 1), (1, .int .i64 id), (2, .agg (u8s (rp 32 v)).toArray)] = some ((imgB id v).arr (.slice none 0 0)) := by kernel_rfl
theorem built102i (id v : Int) : Tryz.prog.built 102 [(0, .agg #[.int .i64 1, .int .i64 id]), (1, .agg ((imgB id v).arr (.slice none 0 0)))] = some ((imgI id v).arr (.slice none 0 0)) := by kernel_rfl
theorem built94 (k i : Int) : Tryz.prog.built 94 [(0, .int .i64 k), (1, .int .i64 i)] = some #[.int .i64 k, .int .i64 i] := by kernel_rfl
theorem zeros_small (n : Nat) : ∀ x ∈ zeros n, Small x := fun x hx => by
  rw [List.eq_of_mem_replicate hx]
  exact small0
theorem imgI_wf {id v : Int} (h : Small id) (hv : Byte v) : (imgI id v).Wf := ⟨small1, h, ⟨small1, h, small0, small0, by simp [imgI, imgB, rp], (fun x hx => by rw [List.eq_of_mem_replicate (show x ∈ List.replicate 32 v from hx)]; exact hv), Nat.zero_le _, (fun x hx => by cases hx), zeros_length 8, zeros_small 8⟩⟩
set_option maxRecDepth 100000 in
theorem image_any (id v : Int) (h : Small id) (hv : Byte v) (w : World) : Calls Tryz.prog 38 #[.int .i64 id, .int .u8 v] w fun e w' => e = .returned (.agg ((imgI id v).arr (.slice none 0 0))) ∧ Below w.heap.size w w' := by
  have HL := Lib.hid fun w => leaf_any v w
  have HW := Lib.hid (imgI_wf h hv)
  clear h hv
  go_enter Tryz.func38, Tryz.ntmps38
  go_upto_region 0 with fail
  refine wp_region_lit ?_
  refine alloc_g zero102b rfl ?_
  intro w1 hA hb hl
  try simp only [Act.put, List.setIfInBounds_toArray, List.set_cons_succ, List.set_cons_zero]
  have HA := Lib.hid hA
  have HB := Lib.hid hb
  have HLT := Lib.hid hl
  clear hA hb hl
  refine wpList_nil ?_
  go_upto_region 1 with fail
  refine wp_region_lit ?_
  refine takeL (.int .i64 id) rfl (by go_simp) ?_
  try simp only [Act.put, List.setIfInBounds_toArray, List.set_cons_succ, List.set_cons_zero]
  refine takeL (.agg #[.int .i64 1, .int .i64 id]) rfl (exec_build _ _ _ _ 94 _ rfl #[(0, .int .i64 1), (1, .int .i64 id)] (by simp only [List.map_toArray, List.map_cons, List.map_nil]; rfl) _ (run_build w1 94 _ _ (built94 _ _))) ?_
  try simp only [Act.put, List.setIfInBounds_toArray, List.set_cons_succ, List.set_cons_zero]
  refine takeL (.int .i64 id) rfl (by go_simp) ?_
  try simp only [Act.put, List.setIfInBounds_toArray, List.set_cons_succ, List.set_cons_zero]
  refine takeL (.int .u8 v) rfl (by go_simp) ?_
  try simp only [Act.put, List.setIfInBounds_toArray, List.set_cons_succ, List.set_cons_zero]
  refine wpList_op rfl fun K hK => ?_
  go_simp
  refine (HL.out _).mono ?_
  rintro e w2 ⟨rfl, hb⟩
  have HB2 := Lib.hid (stay HB.out hb)
  have HA2 := Lib.hid (HA.out.below hb HLT.out)
  clear hb HA HB HL
  refine hK _ _ ?_
  clear hK K
  try simp only [Act.put, List.setIfInBounds_toArray, List.set_cons_succ, List.set_cons_zero]
  refine takeL (.agg ((imgB id v).arr (.slice none 0 0))) rfl (exec_build _ _ _ _ 100 _ rfl #[(0, .int .i64 1), (1, .int .i64 id), (2, .agg (u8s (rp 32 v)).toArray)] (by simp only [List.map_toArray, List.map_cons, List.map_nil]; rfl) _ (run_build w2 100 _ _ (built100i _ _))) ?_
  try simp only [Act.put, List.setIfInBounds_toArray, List.set_cons_succ, List.set_cons_zero]
  refine takeL (.agg ((imgI id v).arr (.slice none 0 0))) rfl (exec_build _ _ _ _ 102 _ rfl #[(0, .agg #[.int .i64 1, .int .i64 id]), (1, .agg ((imgB id v).arr (.slice none 0 0)))] (by simp only [List.map_toArray, List.map_cons, List.map_nil]; rfl) _ (run_build w2 102 _ _ (built102i _ _))) ?_
  try simp only [Act.put, List.setIfInBounds_toArray, List.set_cons_succ, List.set_cons_zero]
  refine store_all (cs := (imgI id v).arr (.slice none 0 0)) HA2.out (same102 It.none_wf HW.out _ _) (info102s HW.out _) (It.arr_one rfl) rfl rfl rfl ?_
  intro w3 hD hO hlD
  try simp only [Act.put, List.setIfInBounds_toArray, List.set_cons_succ, List.set_cons_zero]
  have HB3 := Lib.hid (HB2.out.trans (hO.below HB2.out.size fun k hk => Nat.le_of_eq hk.symm))
  refine wpList_nil ?_
  go_wp2_with fail
  refine bodyPost_ret (v := .agg ((imgI id v).arr (.slice none 0 0))) (results_cell_at rfl _ _ w.heap.size 0 _ _ rfl Tryz.underlying102 rfl (info102s HW.out _) (hD.all rfl)) rfl ⟨rfl, HB3.out⟩
theorem items_one {w : World} {iv : Value} {pl : List (It × Value)} (h : ItemsAt w iv pl) : ∃ a c, iv = .slice a pl.length c := by
  obtain ⟨a, c, e, -⟩ := h
  exact ⟨a, c, e⟩
theorem alloc_bel (W : World) (o : Obj) : Below W.heap.size W (W.alloc o) := (Below.refl _ _).alloc (Nat.le_refl _) _
theorem fair_len {L : List It} (h : fair L = true) : L.length ≤ 100 := by
  unfold fair at h
  rw [Bool.and_eq_true, decide_eq_true_eq] at h
  exact h.2
theorem SecsAt.cellAt {w : World} {g o n c : Nat} {X : List (List Int)} {x : List Int} {i j : Nat} {v : Int} (h : SecsAt w (.slice (some ⟨g, o, none⟩) n c) X) (hx : X[i]? = some x) (hv : x[j]? = some v) : w.cell? ⟨g, o + i * 64 + j, none⟩ = some (.int .u8 v) := by
  obtain ⟨a, c', e, -, hc⟩ := h
  obtain ⟨h1, g2, o2, h3, h4⟩ := hc i x hx
  injection e with q1 q2 q3
  rw [← q1] at h3
  injection h3 with h5
  injection h5 with h6 h7
  subst h6
  subst h7
  have hj := (List.getElem?_eq_some_iff.1 hv).1
  rw [h4 j (by simpa [u8s] using hj)]
  have e := (List.getElem?_eq_some_iff.1 hv).2
  simp [u8s, e]

end Go.Proofs.YtmlniannilnmhaaGreatDoor
