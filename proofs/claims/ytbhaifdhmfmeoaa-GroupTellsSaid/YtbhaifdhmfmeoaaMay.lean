/- Package group's isBlockOf, partsOf and mayBe. -/
import Derived.Test.YtbhaifdhmfmeoaaCore
namespace Go.Proofs.Ytbhaifdhmfmeoaa
set_option linter.unusedSimpArgs false
set_option linter.unusedVariables false
open Go.RowKit

abbrev It.box (x : It) (sv : Value) (w : World) : World := w.alloc (.cells (x.arr sv) 72)
theorem ItAt.box {x : It} (h : x.Wf) (sv : Value) (w : World) : ItAt (x.box sv w) w.heap.size 0 x sv := ItAt.of (by
  have hb := Blk.new w (x.arr sv) 72
  exact hb.all rfl)
theorem ibox_below (x : It) (sv : Value) (w : World) : Below w.heap.size w (x.box sv w) := (Below.refl _ _).alloc (Nat.le_refl _) _
theorem ItAt.c2 {w : World} {g off : Nat} {x : It} {sv : Value} (h : ItAt w g off x sv) : w.cell? ⟨g, off + 2, none⟩ = some (.int .i64 x.blk.kind) := by
  have := h.blk 0 (by simp [Bk.arr, Bk.cells])
  simpa [Bk.arr, Bk.cells] using this
theorem ItAt.c3 {w : World} {g off : Nat} {x : It} {sv : Value} (h : ItAt w g off x sv) : w.cell? ⟨g, off + 3, none⟩ = some (.int .i64 x.blk.id) := by
  have := h.blk 1 (by simp [Bk.arr, Bk.cells])
  simpa [Bk.arr, Bk.cells] using this
/-- Does a block suit a mark, if it is to be one? -/
def It.suits (x : It) (v : Bool) : Bool := if v then decide (x.blk.kind = x.mark.1) && decide (x.blk.id = x.mark.2) && x.blk.good else x.blk.isZ
theorem suits_has (x : It) : x.suits x.has = x.fits := rfl
set_option maxRecDepth 100000 in
theorem isBlockOf_any (x : It) (sv : Value) (v : Bool) (hw : x.Wf) (hs : Len sv x.blk.bytes.length) (w : World) : Calls Try.prog 48 #[.agg (x.arr sv), .bool v] w fun e w' => e = .returned (.bool (x.suits v)) ∧ Below w.heap.size w w' := by
  have HA := Lib.hid (ItAt.box hw sv w)
  have HB := Lib.hid (ibox_below x sv w)
  have HZ := Lib.hid fun w => isZero_any x.blk sv hw.b hs w
  have HG := Lib.hid fun w => good_any x.blk sv hs hw.b w
  have HS := Lib.hid (x.blk.arr_size hw.b sv)
  have c0 : (x.box sv w).cell? ⟨w.heap.size, 0, none⟩ = some (.int .i64 x.mark.1) := HA.out.c0
  have c1 : (x.box sv w).cell? ⟨w.heap.size, 1, none⟩ = some (.int .i64 x.mark.2) := HA.out.c1
  have c2 : (x.box sv w).cell? ⟨w.heap.size, 2, none⟩ = some (.int .i64 x.blk.kind) := HA.out.c2
  have c3 : (x.box sv w).cell? ⟨w.heap.size, 3, none⟩ = some (.int .i64 x.blk.id) := HA.out.c3
  clear hw hs
  cases v
  · have HX : Hid (x.suits false = x.blk.isZ) := Lib.hid rfl
    rw [HX.out]
    clear c0 c1 c2 c3 HG
    go_enter Try.func48, Try.ntmps48
    go_upto_region 2 with fail
    refine wp_region_lit ?_
    refine takeL (.pointer (some ⟨w.heap.size, 2, none⟩)) rfl (by go_simp) ?_
    try simp only [Act.put, List.setIfInBounds_toArray, List.set_cons_succ, List.set_cons_zero]
    refine load57 HA.out.blk HS.out rfl rfl ?_
    try simp only [Act.put, List.setIfInBounds_toArray, List.set_cons_succ, List.set_cons_zero]
    refine wpList_op rfl fun K hK => ?_
    go_simp
    refine (HZ.out _).mono ?_
    rintro e w2 ⟨rfl, hb⟩
    have HB2 := Lib.hid (stay HB.out hb)
    clear hb
    refine hK _ _ ?_
    clear hK K
    try simp only [Act.put, List.setIfInBounds_toArray, List.set_cons_succ, List.set_cons_zero]
    refine takeL (.bool x.blk.isZ) rfl (by go_simp) ?_
    try simp only [Act.put, List.setIfInBounds_toArray, List.set_cons_succ, List.set_cons_zero]
    refine wpList_nil ?_
    go_wp2_with fail
    go_ret
    exact ⟨rfl, HB2.out⟩
  refine (Decidable.em (x.blk.kind = x.mark.1)).symm.elim (fun h0 => ?_) (fun h0 => ?_)
  · go_enter Try.func48, Try.ntmps48
    go_wp2_with fail
    go_ret
    exact ⟨ret_bool (by simp [It.suits, h0]), HB.out⟩
  refine (Decidable.em (x.blk.id = x.mark.2)).symm.elim (fun h1 => ?_) (fun h1 => ?_)
  · go_enter Try.func48, Try.ntmps48
    go_wp2_with fail
    go_ret
    exact ⟨ret_bool (by simp [It.suits, h1]), HB.out⟩
  have HX : Hid (x.suits true = x.blk.good) := Lib.hid (by simp [It.suits, h0, h1])
  rw [HX.out]
  rw [h0] at c2
  rw [h1] at c3
  clear h0 h1 HX
  go_enter Try.func48, Try.ntmps48
  go_upto_region 3 with fail
  refine wp_region_lit ?_
  refine takeL (.pointer (some ⟨w.heap.size, 2, none⟩)) rfl (by go_simp) ?_
  try simp only [Act.put, List.setIfInBounds_toArray, List.set_cons_succ, List.set_cons_zero]
  refine takeL (.pointer (some ⟨w.heap.size, 2, none⟩)) rfl (by go_simp) ?_
  try simp only [Act.put, List.setIfInBounds_toArray, List.set_cons_succ, List.set_cons_zero]
  refine takeL (.int .i64 x.mark.1) rfl (by go_simp) ?_
  try simp only [Act.put, List.setIfInBounds_toArray, List.set_cons_succ, List.set_cons_zero]
  refine takeL (.pointer (some ⟨w.heap.size, 0, none⟩)) rfl (by go_simp) ?_
  try simp only [Act.put, List.setIfInBounds_toArray, List.set_cons_succ, List.set_cons_zero]
  refine takeL (.pointer (some ⟨w.heap.size, 0, none⟩)) rfl (by go_simp) ?_
  try simp only [Act.put, List.setIfInBounds_toArray, List.set_cons_succ, List.set_cons_zero]
  refine takeL (.int .i64 x.mark.1) rfl (by go_simp) ?_
  try simp only [Act.put, List.setIfInBounds_toArray, List.set_cons_succ, List.set_cons_zero]
  refine takeL (.bool true) rfl (by go_simp) ?_
  try simp only [Act.put, List.setIfInBounds_toArray, List.set_cons_succ, List.set_cons_zero]
  refine takeL (.bool true) rfl (by go_simp) ?_
  try simp only [Act.put, List.setIfInBounds_toArray, List.set_cons_succ, List.set_cons_zero]
  refine takeL (.pointer (some ⟨w.heap.size, 2, none⟩)) rfl (by go_simp) ?_
  try simp only [Act.put, List.setIfInBounds_toArray, List.set_cons_succ, List.set_cons_zero]
  refine takeL (.pointer (some ⟨w.heap.size, 3, none⟩)) rfl (by go_simp) ?_
  try simp only [Act.put, List.setIfInBounds_toArray, List.set_cons_succ, List.set_cons_zero]
  refine takeL (.int .i64 x.mark.2) rfl (by go_simp) ?_
  try simp only [Act.put, List.setIfInBounds_toArray, List.set_cons_succ, List.set_cons_zero]
  refine takeL (.pointer (some ⟨w.heap.size, 0, none⟩)) rfl (by go_simp) ?_
  try simp only [Act.put, List.setIfInBounds_toArray, List.set_cons_succ, List.set_cons_zero]
  refine takeL (.pointer (some ⟨w.heap.size, 1, none⟩)) rfl (by go_simp) ?_
  try simp only [Act.put, List.setIfInBounds_toArray, List.set_cons_succ, List.set_cons_zero]
  refine takeL (.int .i64 x.mark.2) rfl (by go_simp) ?_
  try simp only [Act.put, List.setIfInBounds_toArray, List.set_cons_succ, List.set_cons_zero]
  refine takeL (.bool true) rfl (by go_simp) ?_
  try simp only [Act.put, List.setIfInBounds_toArray, List.set_cons_succ, List.set_cons_zero]
  refine takeL (.bool true) rfl (by go_simp) ?_
  try simp only [Act.put, List.setIfInBounds_toArray, List.set_cons_succ, List.set_cons_zero]
  refine takeL (.bool true) rfl (by go_simp) ?_
  try simp only [Act.put, List.setIfInBounds_toArray, List.set_cons_succ, List.set_cons_zero]
  refine takeL (.pointer (some ⟨w.heap.size, 2, none⟩)) rfl (by go_simp) ?_
  try simp only [Act.put, List.setIfInBounds_toArray, List.set_cons_succ, List.set_cons_zero]
  refine load57 HA.out.blk HS.out rfl rfl ?_
  try simp only [Act.put, List.setIfInBounds_toArray, List.set_cons_succ, List.set_cons_zero]
  clear c0 c1 c2 c3
  refine wpList_op rfl fun K hK => ?_
  go_simp
  refine (HG.out _).mono ?_
  rintro e w2 ⟨rfl, hb⟩
  have HB2 := Lib.hid (stay HB.out hb)
  clear hb
  refine hK _ _ ?_
  clear hK K
  try simp only [Act.put, List.setIfInBounds_toArray, List.set_cons_succ, List.set_cons_zero]
  refine takeL (.bool x.blk.good) rfl (by go_simp) ?_
  try simp only [Act.put, List.setIfInBounds_toArray, List.set_cons_succ, List.set_cons_zero]
  refine takeL (.bool x.blk.good) rfl (by go_simp) ?_
  try simp only [Act.put, List.setIfInBounds_toArray, List.set_cons_succ, List.set_cons_zero]
  refine wpList_nil ?_
  go_wp2_with fail
  go_ret
  exact ⟨rfl, HB2.out⟩

theorem partsOf_any (sv : Value) (n : Nat) (hs : Len sv n) (hn : n ≤ 1000000) (w : World) : Calls Try.prog 31 #[sv] w fun e w' => e = .returned (.int .i64 (parts n)) ∧ w = w' := by
  obtain ⟨a, c, rfl⟩ := hs
  have e : Hid (((parts n : Nat) : Int) = ((n : Int) + 24 - 1) / 24) := Lib.hid (by unfold parts; omega)
  rw [e.out]
  go_enter Try.func31, Try.ntmps31
  go_wp2_with fail
  go_ret
  exact ⟨rfl, rfl⟩

/-- Which slots are taken. -/
def tkn (l : List It) : List Bool := (List.range 72).map fun (s : Nat) => l.any fun x => decide (slotOf x.mark = s)
abbrev bls (l : List Bool) : List Value := l.map Value.bool
theorem tkn_length (p : List It) : (tkn p).length = 72 := by simp [tkn]
theorem tkn_at (p : List It) {s : Nat} (h : s < 72) : (tkn p)[s]? = some (p.any fun x => decide (slotOf x.mark = s)) := by simp [tkn, h]
theorem tkn_snoc (p : List It) (x : It) (s : Nat) (hs : slotOf x.mark = s) (h : s < 72) : (tkn p).set s true = tkn (p ++ [x]) := by
  apply List.ext_getElem?
  intro i
  by_cases hi : i < 72
  · rw [tkn_at _ hi, List.getElem?_set, tkn_length, tkn_at _ hi]
    by_cases e : s = i
    · subst e
      simp [h, hs]
    · have : ¬ ((s : Int) = (i : Int)) := by omega
      simp [e, hs, this]
  · rw [List.getElem?_eq_none (by simp [tkn]; omega), List.getElem?_eq_none (by simp [tkn]; omega)]
theorem tkn_nil : tkn [] = List.replicate 72 false := by decide
/-- Are the items up to k right, by themselves? -/
def okTo (l : List It) (k : Nat) : Prop := (∀ x ∈ l.take k, x.ok = true) ∧ (slots (l.take k)).Nodup
theorem okTo_zero (l : List It) : okTo l 0 := ⟨fun x hx => by simp at hx, by simp [slots]⟩
theorem take_snoc {l : List It} {k : Nat} {x : It} (hx : l[k]? = some x) : l.take (k + 1) = l.take k ++ [x] := by rw [List.take_add_one, hx]; rfl
theorem okTo_step {l : List It} {k : Nat} {x : It} (h : okTo l k) (hx : l[k]? = some x) (ho : x.ok = true) (hn : ((l.take k).any fun y => decide (slotOf y.mark = slotOf x.mark)) = false) : okTo l (k + 1) := by
  unfold okTo
  rw [take_snoc hx]
  refine ⟨fun y hy => ?_, ?_⟩
  · rcases List.mem_append.1 hy with hy | hy
    · exact h.1 y hy
    · obtain rfl := List.mem_singleton.1 hy
      exact ho
  · rw [slots, List.map_append, List.nodup_append]
    refine ⟨h.2, by simp, fun a ha b hb => ?_⟩
    obtain ⟨y, hy, rfl⟩ := List.mem_map.1 ha
    simp at hb
    subst hb
    intro e
    have : ((l.take k).any fun y => decide (slotOf y.mark = slotOf x.mark)) = true := List.any_eq_true.2 ⟨y, hy, decide_eq_true e⟩
    rw [hn] at this
    cases this
theorem no_ok {l : List It} {k : Nat} {x : It} (hx : l[k]? = some x) (ho : x.ok = false) : mayBe l = false := by
  rw [← Bool.not_eq_true, mayBe_iff]
  rintro ⟨-, -, h, -⟩
  have := h x (List.mem_of_getElem? hx)
  rw [ho] at this
  cases this
theorem no_twice {l : List It} {k : Nat} {x : It} (hx : l[k]? = some x) (hn : ((l.take k).any fun y => decide (slotOf y.mark = slotOf x.mark)) = true) : mayBe l = false := by
  rw [← Bool.not_eq_true, mayBe_iff]
  rintro ⟨-, -, -, h⟩
  have h2 : (slots (l.take (k + 1))).Nodup := by
    have : slots (l.take (k + 1)) = (slots l).take (k + 1) := by simp [slots, List.map_take]
    rw [this]
    exact h.sublist (List.take_sublist _ _)
  rw [take_snoc hx, slots, List.map_append, List.nodup_append] at h2
  obtain ⟨y, hy, e⟩ := List.any_eq_true.1 hn
  exact h2.2.2 _ (List.mem_map.2 ⟨y, hy, rfl⟩) (slotOf x.mark) (by simp) (of_decide_eq_true e)
theorem may_all {l : List It} (h1 : 1 ≤ l.length) (h2 : l.length ≤ 64) (h : okTo l l.length) : mayBe l = true := by
  unfold okTo at h
  rw [List.take_length] at h
  exact mayBe_iff.2 ⟨h1, h2, h⟩

theorem len_n {w : World} {sv : Value} {l : List Int} (h : BytesAt w sv l) : Len sv l.length := h.len
theorem zero95 : (Try.prog.info? 95).bind (·.zero) = some (.agg (bls (List.replicate 72 false)).toArray) := by kernel_rfl
set_option maxRecDepth 100000 in
set_option maxHeartbeats 2000000 in
theorem mayBe_any (l : List (It × Value)) (n : Nat) (hn : l.length = n) (sv : Value) (hlen : n ≤ 1000000) (w : World) (h : ItemsAt w sv l) : Calls Try.prog 30 #[sv] w fun e w' => e = .returned (.bool (mayBe (l.map (·.1)))) ∧ Below w.heap.size w w' := by
  obtain ⟨L, hL⟩ : ∃ L, l.map (·.1) = L := ⟨_, rfl⟩
  have hLn : L.length = n := by rw [← hL, List.length_map, hn]
  rw [hL]
  by_cases h1 : n < 1
  · obtain ⟨a, cap, rfl, -⟩ := h
    have HX : Hid (mayBe L = false) := Lib.hid (by rw [← Bool.not_eq_true, mayBe_iff]; omega)
    rw [HX.out, hn]
    have d1 : decide ((n : Int) < 1) = true := decide_eq_true (by omega)
    clear hn hL hLn h1
    go_enter Try.func30, Try.ntmps30
    go_wp2_with fail
    go_ret
    exact ⟨rfl, Below.refl _ _⟩
  by_cases h2 : 64 < n
  · obtain ⟨a, cap, rfl, -⟩ := h
    have HX : Hid (mayBe L = false) := Lib.hid (by rw [← Bool.not_eq_true, mayBe_iff]; omega)
    rw [HX.out, hn]
    have d1 : decide ((n : Int) < 1) = false := decide_eq_false (by omega)
    have d2 : decide (64 < (n : Int)) = true := decide_eq_true (by omega)
    clear hn hL hLn h1 h2
    go_enter Try.func30, Try.ntmps30
    go_wp2_with fail
    go_ret
    exact ⟨rfl, Below.refl _ _⟩
  obtain ⟨g, o, cap, rfl, hcap, hg, hc⟩ := h.has (by omega)
  rw [hn]
  have d1 : decide ((n : Int) < 1) = false := decide_eq_false (by omega)
  have d2 : decide (64 < (n : Int)) = false := decide_eq_false (by omega)
  have HC := Lib.hid hc
  have HG := Lib.hid hg
  have HL := Lib.hid hL
  have HLN := Lib.hid hLn
  have HN := Lib.hid hn
  have hn64 : (n : Int) ≤ 64 := by omega
  have HN1 : Hid (1 ≤ n) := Lib.hid (by omega)
  clear hc hg hL hLn hn h1 h2 h hcap hlen
  go_enter Try.func30, Try.ntmps30
  go_upto_region 3 with fail
  refine wp_region_lit ?_
  refine alloc_g zero95 rfl ?_
  intro w0 hT hb0 hl0
  try simp only [Act.put, List.setIfInBounds_toArray, List.set_cons_succ, List.set_cons_zero]
  have HT0 := Lib.hid hT
  have HB0 := Lib.hid hb0
  have HL0 := Lib.hid hl0
  clear hT hb0 hl0
  refine wpList_nil ?_
  go_wp2_with fail
  go_loopg [18] n (fun q i wr => ∃ k : Nat, n - k ≤ q ∧ k ≤ n ∧ i = .int .i64 k ∧ okTo L k ∧ Blk wr w.heap.size (bls (tkn (L.take k))) ∧ Below w.heap.size w wr)
  case atStart => exact ⟨0, by omega, by omega, rfl, okTo_zero L, by rw [List.take_zero, tkn_nil]; exact HT0.out, HB0.out⟩
  case round =>
    obtain ⟨k, hq, hk, rfl, hok, hblk, hb⟩ := hrel
    have HOK := Lib.hid hok
    have HBK := Lib.hid hblk
    have HB := Lib.hid hb
    clear hok hblk hb HT0 HB0 HL0
    by_cases hlt : k < n
    · obtain ⟨xv, hx⟩ : ∃ x, l[k]? = some x := ⟨_, List.getElem?_eq_getElem (by have := HN.out; omega)⟩
      obtain ⟨x, bv⟩ := xv
      obtain ⟨x1, x2, x3⟩ := HC.out k _ hx
      have HLX : Hid (L[k]? = some x) := Lib.hid (by rw [← HL.out, List.getElem?_map, hx]; rfl)
      have HW := Lib.hid x1
      have HLE := Lib.hid x2.len
      have HX := Lib.hid (x3.below HB.out HG.out)
      have HM := Lib.hid fun w => isMark_any x.mark x1.k x1.i w
      have HF := Lib.hid fun v w => isBlockOf_any x bv v x1 x2.len w
      have gk : decide ((k : Int) < (n : Int)) = true := decide_eq_true (by omega)
      have hk0 : (k : Int) < (n : Int) := by omega
      clear x1 x2 x3 hx
      go_upto_region 6 with fail
      refine wp_region_lit ?_
      refine takeL (.pointer (some ⟨g, o + k * 47, none⟩)) rfl (by go_simp) ?_
      try simp only [Act.put, List.setIfInBounds_toArray, List.set_cons_succ, List.set_cons_zero]
      refine load72 HX.out (x.arr_size HW.out bv) rfl rfl ?_
      try simp only [Act.put, List.setIfInBounds_toArray, List.set_cons_succ, List.set_cons_zero]
      refine alloc_g zero72b rfl ?_
      intro w1 hA hb hl
      try simp only [Act.put, List.setIfInBounds_toArray, List.set_cons_succ, List.set_cons_zero]
      refine store_all (cs := x.arr bv) hA (same72 It.none_wf HW.out _ _) (info72s HW.out _) (It.arr_one (slice_one HLE.out)) rfl rfl rfl ?_
      intro w2 hD hO hlD
      try simp only [Act.put, List.setIfInBounds_toArray, List.set_cons_succ, List.set_cons_zero]
      have hbb : Below wr.heap.size wr w2 := hb.trans (hO.below hb.size fun k hk => Nat.le_of_eq hk.symm)
      have HB2 := Lib.hid (stay HB.out hbb)
      have HK2 := Lib.hid (HBK.out.below hbb HBK.out.lt)
      have HA2 := Lib.hid (ItAt.of (x := x) (sv := bv) (w := w2) (g := wr.heap.size) (off := 0) (hD.all rfl))
      have HLT : Hid (wr.heap.size < w2.heap.size) := Lib.hid (by omega)
      have HNE : Hid (w.heap.size ≠ wr.heap.size) := Lib.hid (by have := HBK.out.lt; omega)
      generalize wr.heap.size = t at *
      clear hA hb hl hD hO hlD hbb HX HB HBK
      refine wpList_nil ?_
      have c0 : w2.cell? ⟨t, 0, none⟩ = some (.int .i64 x.mark.1) := HA2.out.c0
      have c1 : w2.cell? ⟨t, 1, none⟩ = some (.int .i64 x.mark.2) := HA2.out.c1
      go_wp2_with fail
      refine (HM.out _).mono ?_
      rintro e w3 ⟨rfl, hb⟩
      have HB3 := Lib.hid (stay HB2.out hb)
      have HK3 := Lib.hid (HK2.out.below hb HK2.out.lt)
      have HA3 := Lib.hid (HA2.out.below hb HLT.out)
      have HLT3 : Hid (t < w3.heap.size) := Lib.hid (Nat.lt_of_lt_of_le HLT.out hb.size)
      clear hb HB2 HK2 HA2 HLT c0 c1 HM
      cases hm : okMark x.mark
      · have HX : Hid (mayBe L = false) := Lib.hid (no_ok HLX.out (by unfold It.ok; rw [hm]; rfl))
        go_wp2_with fail
        go_ret
        exact ⟨ret_bool HX.out.symm, HB3.out⟩
      have HTE := Lib.hid fun w => tell_any x.mark hm w
      obtain ⟨hs1, hs2⟩ := slot_range hm
      have HMK := Lib.hid hm
      obtain ⟨s, hs⟩ : ∃ s : Nat, slotOf x.mark = s := ⟨(slotOf x.mark).toNat, by omega⟩
      have HSL := Lib.hid hs
      rw [hs] at HTE hs1 hs2
      have c0 : w3.cell? ⟨t, 0, none⟩ = some (.int .i64 x.mark.1) := HA3.out.c0
      have c1 : w3.cell? ⟨t, 1, none⟩ = some (.int .i64 x.mark.2) := HA3.out.c1
      clear hm hs
      go_wp2_with fail
      refine (HTE.out _).mono ?_
      rintro e w4 ⟨rfl, hb⟩
      have HB4 := Lib.hid (stay HB3.out hb)
      have HK4 := Lib.hid (HK3.out.below hb HK3.out.lt)
      have HA4 := Lib.hid (HA3.out.below hb HLT3.out)
      have HLT4 : Hid (t < w4.heap.size) := Lib.hid (Nat.lt_of_lt_of_le HLT3.out hb.size)
      clear hb HB3 HK3 HA3 HLT3 c0 c1 HTE
      have ct : w4.cell? ⟨w.heap.size, s, none⟩ = some (.bool ((L.take k).any fun x => decide (slotOf x.mark = s))) := HK4.out.cell (by rw [List.getElem?_map, tkn_at _ (by omega)]; rfl)
      obtain ⟨tk, htk⟩ : ∃ v, ((L.take k).any fun x => decide (slotOf x.mark = s)) = v := ⟨_, rfl⟩
      rw [htk] at ct
      have HTK := Lib.hid htk
      clear htk
      cases tk
      case true =>
        have HX : Hid (mayBe L = false) := Lib.hid (no_twice HLX.out (by rw [HSL.out]; exact HTK.out))
        go_wp2_with fail
        go_ret
        exact ⟨ret_bool HX.out.symm, HB4.out⟩
      have cf : w4.frozen? ⟨w.heap.size, s, none⟩ = false := HK4.out.frozen s
      go_upto_region 10 with fail
      refine wp_region_lit ?_
      refine takeL (.int .i64 s) rfl (by go_simp) ?_
      try simp only [Act.put, List.setIfInBounds_toArray, List.set_cons_succ, List.set_cons_zero]
      refine takeL (.pointer (some ⟨w.heap.size, s, none⟩)) rfl (by go_simp) ?_
      try simp only [Act.put, List.setIfInBounds_toArray, List.set_cons_succ, List.set_cons_zero]
      refine takeL (.bool false) rfl (by go_simp) ?_
      try simp only [Act.put, List.setIfInBounds_toArray, List.set_cons_succ, List.set_cons_zero]
      refine takeL (.bool false) rfl (by go_simp) ?_
      try simp only [Act.put, List.setIfInBounds_toArray, List.set_cons_succ, List.set_cons_zero]
      refine load72 HA4.out.all (x.arr_size HW.out bv) rfl rfl ?_
      try simp only [Act.put, List.setIfInBounds_toArray, List.set_cons_succ, List.set_cons_zero]
      refine takeL (.bool (hasBlock x.mark.1)) rfl (by go_simp) ?_
      try simp only [Act.put, List.setIfInBounds_toArray, List.set_cons_succ, List.set_cons_zero]
      refine wpList_op rfl fun K hK => ?_
      go_simp
      refine (HF.out _ _).mono ?_
      rintro e w5 ⟨rfl, hb⟩
      have HB5 := Lib.hid (stay HB4.out hb)
      have HK5 := Lib.hid (HK4.out.below hb HK4.out.lt)
      clear hb HB4 HK4 HA4 HLT4 ct cf HF
      have HSU : Hid (x.suits (hasBlock x.mark.1) = x.fits) := Lib.hid rfl
      refine hK _ _ ?_
      clear hK K
      try simp only [Act.put, List.setIfInBounds_toArray, List.set_cons_succ, List.set_cons_zero]
      rw [HSU.out]
      cases hf : x.fits
      · have HX : Hid (mayBe L = false) := Lib.hid (no_ok HLX.out (by unfold It.ok; rw [hf, Bool.and_false]))
        refine takeL (.bool true) rfl (by go_simp) ?_
        try simp only [Act.put, List.setIfInBounds_toArray, List.set_cons_succ, List.set_cons_zero]
        refine takeL (.bool true) rfl (by go_simp) ?_
        try simp only [Act.put, List.setIfInBounds_toArray, List.set_cons_succ, List.set_cons_zero]
        refine wpList_nil ?_
        go_wp2_with fail
        go_ret
        exact ⟨ret_bool HX.out.symm, HB5.out⟩
      have HOKX : Hid (x.ok = true) := Lib.hid (by unfold It.ok; rw [hf, HMK.out]; rfl)
      have HST := Lib.hid (okTo_step HOK.out HLX.out HOKX.out (by rw [HSL.out]; exact HTK.out))
      have HK6 : Hid (Blk (w5.setCell ⟨w.heap.size, s, none⟩ (.bool true)) w.heap.size (bls (tkn (L.take (k + 1))))) := Lib.hid (by
        have := HK5.out.set s (.bool true)
        rw [take_snoc HLX.out, ← tkn_snoc _ x s HSL.out (by omega)]
        simpa [bls, List.map_set] using this)
      have HB6 : Hid (Below w.heap.size w (w5.setCell ⟨w.heap.size, s, none⟩ (.bool true))) := Lib.hid ⟨HB5.out.os, HB5.out.tape, HB5.out.output, by simpa using HB5.out.size, fun i hi => (heap_setCell_other w5 ⟨w.heap.size, s, none⟩ i _ (by simp; omega)).trans (HB5.out.block i hi)⟩
      have ct : w5.cell? ⟨w.heap.size, s, none⟩ = some (.bool false) := HK5.out.cell (by rw [List.getElem?_map, tkn_at _ (by omega), HTK.out]; rfl)
      have cf : w5.frozen? ⟨w.heap.size, s, none⟩ = false := HK5.out.frozen s
      clear hf
      refine takeL (.bool false) rfl (by go_simp) ?_
      try simp only [Act.put, List.setIfInBounds_toArray, List.set_cons_succ, List.set_cons_zero]
      refine takeL (.bool false) rfl (by go_simp) ?_
      try simp only [Act.put, List.setIfInBounds_toArray, List.set_cons_succ, List.set_cons_zero]
      refine wpList_nil ?_
      go_wp2_with fail
      go_roundg (n - (k + 1))
      case measure => omega
      case rel => exact ⟨k + 1, by omega, by omega, by go_num, HST.out, HK6.out, HB6.out⟩
    · obtain rfl : k = n := by omega
      have HX : Hid (mayBe L = true) := Lib.hid (may_all (by have := HLN.out; have := HN1.out; omega) (by have := HLN.out; omega) (by have := HLN.out; rw [this]; exact HOK.out))
      have gk : decide ((k : Int) < (k : Int)) = false := decide_eq_false (by omega)
      go_wp2_with fail
      go_ret
      exact ⟨ret_bool HX.out.symm, HB.out⟩

end Go.Proofs.Ytbhaifdhmfmeoaa
