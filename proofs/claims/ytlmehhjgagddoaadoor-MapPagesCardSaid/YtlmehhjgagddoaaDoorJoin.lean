/- Package mappage's blockProblem, blocksProblem, gather and Join, of what Cut makes. -/
import Derived.Test.YtlmehhjgagddoaaDoorCut
namespace Go.Proofs.YtlmehhjgagddoaaDoor
set_option linter.unusedSimpArgs false
set_option linter.unusedVariables false
open Go.RowKit

theorem isHead0 : isHead 0 = true := by decide
theorem hds_heads {l : List Int} (h : ∀ x ∈ l, isHead x = true) (i : Nat) : ∀ x ∈ hds l i, isHead x = true := fun x hx => by
  obtain ⟨k, _, rfl⟩ := List.mem_map.1 hx
  show isHead (l.getD (i * 8 + k) 0) = true
  rw [List.getD_eq_getElem?_getD]
  cases e : l[i * 8 + k]? with
  | none => exact isHead0
  | some y => exact h y (List.mem_of_getElem? e)
theorem mk_good {l : List Int} (h : ∀ x ∈ l, isHead x = true) {i : Nat} (hi : i < 8) : (mk l i).good = true := by
  have h1 : ((0 : Int) ≤ (i : Int)) := by omega
  have h2 : ((i : Int) ≤ 7) := by omega
  simp only [Bk.good, mk, within, Bk.plain]
  simp [h1, h2, hds_heads h i]
  exact fun x hx => hds_heads h i x hx
theorem hds_behind {l : List Int} {i k : Nat} (h : l.length ≤ i * 8 + k) : l.getD (i * 8 + k) 0 = 0 := by
  rw [List.getD_eq_getElem?_getD, List.getElem?_eq_none h]
  rfl
set_option maxRecDepth 100000 in
theorem bp_yes (g : Gm) (l : List Int) (hl : (l.length : Int) = g.p) (hsm : ∀ x ∈ l, Small x) (hh : ∀ x ∈ l, isHead x = true) (i : Nat) (hi : i < 8) (w : World) :
    Calls Tryd.prog 27 #[g.v, .agg ((mk l i).arr nosl), .int .i64 i] w fun e w' => e = .returned .nilIface ∧ Below w.heap.size w w' := by
  have hwf := mk_wf hsm (i := i) (by omega)
  have HG := Lib.hid fun w => good_any (mk l i) nosl len_nil hwf w
  rw [mk_good hh hi] at HG
  have HWF := Lib.hid hwf
  have HB0 : Hid (BAt ((mk l i).box nosl (g.box w)) (w.heap.size + 1) (mk l i) nosl) := Lib.hid (by have := BAt.box hwf nosl (g.box w); simpa using this)
  have HW0 : Hid (Below w.heap.size w ((mk l i).box nosl (g.box w))) := Lib.hid ((gbox_below g w).alloc (by simp) _)
  have HG0 : Hid (GAt ((mk l i).box nosl (g.box w)) w.heap.size g) := Lib.hid ((GAt.box g w).below (box_below (mk l i) nosl (g.box w)) (by simp))
  have c0 : ((mk l i).box nosl (g.box w)).cell? ⟨w.heap.size + 1, 0, none⟩ = some (.int .i64 3) := HB0.out.c0
  have c1 : ((mk l i).box nosl (g.box w)).cell? ⟨w.heap.size + 1, 1, none⟩ = some (.int .i64 i) := HB0.out.c1
  have HL := Lib.hid hl
  clear hwf hl hsm hh
  go_enter Tryd.func27, Tryd.ntmps27
  go_upto_region 5 with fail
  clear c0 c1
  refine wp_region_lit ?_
  refine load43 (cs := (mk l i).arr nosl) HB0.out.all ((mk l i).arr_size HWF.out nosl) rfl rfl ?_
  try simp only [Act.put, List.setIfInBounds_toArray, List.set_cons_succ, List.set_cons_zero]
  refine wpList_op rfl fun K hK => ?_
  go_simp
  refine (HG.out _).mono ?_
  rintro e w2 ⟨rfl, hb⟩
  have HB2 := Lib.hid (HB0.out.below hb HB0.out.lt)
  have HW2 := Lib.hid (stay HW0.out hb)
  have HG2 := Lib.hid (HG0.out.below hb (by simp; try omega))
  clear hb HB0 HG0 HW0
  refine hK _ _ ?_
  clear hK K
  try simp only [Act.put, List.setIfInBounds_toArray, List.set_cons_succ, List.set_cons_zero]
  refine takeL (.bool false) rfl (by go_simp) ?_
  try simp only [Act.put, List.setIfInBounds_toArray, List.set_cons_succ, List.set_cons_zero]
  refine takeL (.bool false) rfl (by go_simp) ?_
  try simp only [Act.put, List.setIfInBounds_toArray, List.set_cons_succ, List.set_cons_zero]
  refine wpList_nil ?_
  go_upto_region 7 with fail
  refine wp_region_lit ?_
  refine takeL (.pointer (some ⟨w.heap.size + 1, 37, none⟩)) rfl (by go_simp) ?_
  try simp only [Act.put, List.setIfInBounds_toArray, List.set_cons_succ, List.set_cons_zero]
  refine load41 (cs := (i64s (hds l i)).toArray) HB2.out.heads (by simp [hds]) rfl rfl ?_
  try simp only [Act.put, List.setIfInBounds_toArray, List.set_cons_succ, List.set_cons_zero]
  refine takeL (.int .i64 0) rfl (by go_simp) ?_
  try simp only [Act.put, List.setIfInBounds_toArray, List.set_cons_succ, List.set_cons_zero]
  refine wpList_nil ?_
  have c3 := HG2.out.p
  have hi1 : (i : Int) < 8 := by omega
  go_wp2_with fail
  go_loopg [27] 8 (fun q c wr => ∃ m : Nat, 8 - m ≤ q ∧ m ≤ 8 ∧ c = .int .i64 m ∧ w2 = wr)
  case atStart => exact ⟨0, by omega, by omega, rfl, rfl⟩
  case round =>
    obtain ⟨m, hq, hm, rfl, rfl⟩ := hrel
    by_cases hlt : m < 8
    · have hk1 : (m : Int) < 8 := by omega
      have hx := hds_at l i m hlt
      obtain ⟨x, hxe⟩ : ∃ x, l.getD (i * 8 + m) 0 = x := ⟨_, rfl⟩
      rw [hxe] at hx
      have hix := fun w => index41 w (hds l i) (hds_length l i) m x hx
      by_cases hp : g.p ≤ (i : Int) * 8 + m
      · have hx0 : x = 0 := by rw [← hxe]; exact hds_behind (by have := HL.out; omega)
        have d1 : decide (g.p ≤ (i : Int) * 8 + m) = true := decide_eq_true hp
        have d2 : (x != 0) = false := by rw [hx0]; rfl
        clear hx hxe hx0
        go_wp2_with fail
        go_roundg (8 - (m + 1))
        case measure => omega
        case rel => exact ⟨m + 1, by omega, by omega, by go_num, rfl⟩
      · have d1 : decide (g.p ≤ (i : Int) * 8 + m) = false := decide_eq_false hp
        clear hx hxe
        go_wp2_with fail
        go_roundg (8 - (m + 1))
        case measure => omega
        case rel => exact ⟨m + 1, by omega, by omega, by go_num, rfl⟩
    · obtain rfl : m = 8 := by omega
      go_wp2_with fail
      go_ret
      exact ⟨rfl, HW2.out⟩

theorem Bk.arr_one {b : Bk} : ∀ v ∈ b.arr nosl, v.oneCell' = true := fun v hv => by
  simp only [Bk.arr, Bk.cells, List.mem_toArray, List.mem_cons, List.mem_append, List.mem_map] at hv
  rcases hv with rfl | rfl | ⟨z, _, rfl⟩ | rfl | rfl | rfl | ⟨z, _, rfl⟩ <;> rfl
theorem info43s {b : Bk} (h : b.Wf) : (Tryd.prog.info? 43).map (·.size) = some (b.arr nosl).size := by rw [b.arr_size h]; exact info43
theorem same43 {b : Bk} (h : b.Wf) : (Bk.none.cells nosl).length = (b.arr nosl).size := by rw [b.arr_size h]; exact Bk.none.cells_length Bk.none_wf nosl
/-- A block of a row. -/
theorem row_block {w : World} {r n : Nat} {l : List Int} (h : Blk w r (row (mk l) n)) {i : Nat} (hi : i < n) : At w r (i * 45) ((mk l i).arr nosl) := fun j hj => h.cell (by
  have h45 : ((mk l i).cells nosl).length = 45 := by simp [Bk.cells, (mk_page l i).1, (mk_page l i).2]
  have hj' : j < ((mk l i).cells nosl).length := by simpa [Bk.arr] using hj
  rw [row_at (fun i => mk_page l i) hi (by omega), List.getElem?_eq_getElem hj']
  simp [Bk.arr])
theorem Only.cell {g : Nat} {w w' : World} (ho : Only (fun k => k = g) w w') {a : Addr} {v : Value} (hne : a.block ≠ g) (hx : w.cell? a = some v) : w'.cell? a = some v := by
  have hb := ho.block a.block (lt_of_cell hx) hne
  rw [← hx]
  simp only [World.cell?, hb]
set_option maxRecDepth 100000 in
theorem bsp_yes (g : Gm) (l : List Int) (h : Heads g l) (hsm : ∀ x ∈ l, Small x) (n : Nat) (hn : g.maps = n) (r : Nat) (w : World) (hr : Blk w r (row (mk l) n)) :
    Calls Tryd.prog 16 #[g.v, .slice (some ⟨r, 0, none⟩) n n] w fun e w' => e = .returned .nilIface ∧ Below w.heap.size w w' := by
  have HM := Lib.hid fun w => maps_yes g h.1 w
  have HG := Lib.hid fun w => good_yes g h.1 w
  have hn8 : n ≤ 8 := by have := h.1.maps; omega
  have HP := Lib.hid fun i hi w => bp_yes g l h.2.1 hsm h.2.2 i hi w
  have HWF := Lib.hid fun i (hi : i < 8) => mk_wf hsm (i := i) (by omega)
  rw [hn] at HM
  have HRB := Lib.hid hr
  clear h hn hsm hr
  go_enter Tryd.func16, Tryd.ntmps16
  go_wp2_with fail
  refine (HG.out _).mono ?_
  rintro e w1 ⟨rfl, hb⟩
  have HB := Lib.hid (box_call hb)
  clear hb
  obtain ⟨c0, c1, c2, c3⟩ := HB.out.2.1
  go_wp2_with fail
  refine (HM.out _).mono ?_
  rintro e w2 ⟨rfl, hb⟩
  have HB2 := Lib.hid (further HB.out hb)
  clear hb HB c0 c1 c2 c3
  go_wp2_with fail
  go_loopg [22] n (fun q c wr => ∃ k : Nat, n - k ≤ q ∧ k ≤ n ∧ c = .int .i64 k ∧ (Below w.heap.size w wr ∧ GAt wr w.heap.size g ∧ w.heap.size < wr.heap.size))
  case atStart => exact ⟨0, by omega, by omega, rfl, HB2.out⟩
  case round =>
    obtain ⟨k, hq, hk, rfl, hb⟩ := hrel
    have HB := Lib.hid hb
    clear hb HB2
    by_cases hlt : k < n
    · have hk1 : (k : Int) < (n : Int) := by omega
      have HP1 := Lib.hid (HP.out k (by omega))
      have HW1 := Lib.hid (HWF.out k (by omega))
      have HA := Lib.hid (row_block (HRB.out.below HB.out.1 HRB.out.lt) hlt)
      go_upto_region 7 with fail
      refine wp_region_lit ?_
      refine takeL (.int .i64 k) rfl (by go_simp) ?_
      try simp only [Act.put, List.setIfInBounds_toArray, List.set_cons_succ, List.set_cons_zero]
      refine takeL (.pointer (some ⟨r, k * 45, none⟩)) rfl (by go_simp) ?_
      try simp only [Act.put, List.setIfInBounds_toArray, List.set_cons_succ, List.set_cons_zero]
      refine load43 (cs := (mk l k).arr nosl) HA.out ((mk l k).arr_size HW1.out nosl) rfl rfl ?_
      try simp only [Act.put, List.setIfInBounds_toArray, List.set_cons_succ, List.set_cons_zero]
      refine alloc_g zero43b rfl ?_
      intro w3 hA3 hb3 hl3
      try simp only [Act.put, List.setIfInBounds_toArray, List.set_cons_succ, List.set_cons_zero]
      clear hl3
      refine takeL (.int .i64 k) rfl (by go_simp) ?_
      try simp only [Act.put, List.setIfInBounds_toArray, List.set_cons_succ, List.set_cons_zero]
      refine store_all (cs := (mk l k).arr nosl) hA3 (same43 HW1.out) (info43s HW1.out) Bk.arr_one rfl rfl rfl ?_
      intro w4 hD hO hlD
      try simp only [Act.put, List.setIfInBounds_toArray, List.set_cons_succ, List.set_cons_zero]
      clear hlD hA3
      have hbb : Below wr.heap.size wr w4 := hb3.trans (hO.below hb3.size fun k hk => Nat.le_of_eq hk.symm)
      have HB4 := Lib.hid (further HB.out hbb)
      have HD := Lib.hid hD
      clear hb3 hO hbb hD HA
      refine wpList_nil ?_
      obtain ⟨c0, c1, c2, c3⟩ := HB4.out.2.1
      generalize wr.heap.size = gk at *
      clear HB
      go_upto_region 8 with fail
      refine wp_region_lit ?_
      refine takeL (.agg #[.int .i64 g.p, .int .i64 g.s, .int .i64 g.l, .int .i64 g.f]) rfl (by go_simp) ?_
      try simp only [Act.put, List.setIfInBounds_toArray, List.set_cons_succ, List.set_cons_zero]
      refine load43 (cs := (mk l k).arr nosl) (HD.out.all rfl) ((mk l k).arr_size HW1.out nosl) rfl rfl ?_
      try simp only [Act.put, List.setIfInBounds_toArray, List.set_cons_succ, List.set_cons_zero]
      refine takeL (.int .i64 k) rfl (by go_simp) ?_
      try simp only [Act.put, List.setIfInBounds_toArray, List.set_cons_succ, List.set_cons_zero]
      refine wpList_op rfl fun K hK => ?_
      go_simp
      refine (HP1.out _).mono ?_
      rintro e w5 ⟨rfl, hb⟩
      have HB5 := Lib.hid (further HB4.out hb)
      clear hb HB4
      refine hK _ _ ?_
      clear hK K c0 c1 c2 c3
      try simp only [Act.put, List.setIfInBounds_toArray, List.set_cons_succ, List.set_cons_zero]
      refine takeL (.nilIface) rfl (by go_simp) ?_
      try simp only [Act.put, List.setIfInBounds_toArray, List.set_cons_succ, List.set_cons_zero]
      refine wpList_nil ?_
      go_wp2_with fail
      go_roundg (n - (k + 1))
      case measure => omega
      case rel => exact ⟨k + 1, by omega, by omega, by go_num, HB5.out⟩
    · obtain rfl : n = k := by omega
      have hk1 : ¬ (n : Int) < (n : Int) := by omega
      go_wp2_with fail
      go_ret
      exact ⟨rfl, HB.out.1⟩

theorem IntsAt.of_blk {w : World} {m cap : Nat} {l : List Int} (h : Blk w m (i64s l)) : IntsAt w (.slice (some ⟨m, 0, none⟩) l.length cap) l :=
  ⟨_, cap, rfl, fun i x hx => ⟨m, 0, rfl, by rw [Nat.zero_add]; exact h.cell (by rw [List.getElem?_map, hx]; rfl)⟩⟩
def fill (l : List Int) (p k : Nat) : List Int := l.take k ++ zeros (p - k)
theorem fill_zero (l : List Int) (p : Nat) : fill l p 0 = zeros p := by simp [fill]
theorem fill_all {l : List Int} {p : Nat} (h : l.length = p) : fill l p p = l := by
  subst h
  simp [fill, zeros]
theorem fill_at {l : List Int} {p k : Nat} (h : l.length = p) (hk : k < p) : (i64s (fill l p k))[k]? = some (.int .i64 0) := by
  have : (fill l p k)[k]? = some 0 := by
    unfold fill
    rw [List.getElem?_append_right (by simp; omega)]
    have e1 : k - (l.take k).length = 0 := by simp; omega
    rw [e1, show p - k = (p - (k + 1)) + 1 by omega]
    simp [zeros, List.replicate_succ]
  rw [List.getElem?_map, this]
  rfl
theorem fill_set {l : List Int} {p k : Nat} {x : Int} (h : l.length = p) (hx : l[k]? = some x) : (i64s (fill l p k)).set k (.int .i64 x) = i64s (fill l p (k + 1)) := by
  have hk := (List.getElem?_eq_some_iff.1 hx).1
  rw [show (Value.int .i64 x) = (Value.int IntKind.i64) x from rfl, ← List.map_set]
  congr 1
  unfold fill
  rw [List.set_append_right _ _ (by simp; omega), List.take_add_one, hx]
  have e1 : k - (l.take k).length = 0 := by simp; omega
  rw [e1, show p - k = (p - (k + 1)) + 1 by omega]
  simp [zeros, List.replicate_succ]
set_option maxRecDepth 100000 in
theorem gather_yes (g : Gm) (h : g.Ok) (l : List Int) (hl : (l.length : Int) = g.p) (n : Nat) (hn : g.maps = n) (r : Nat) (w : World) (hr : Blk w r (row (mk l) n)) :
    Calls Tryd.prog 17 #[g.v, .slice (some ⟨r, 0, none⟩) n n] w fun e w' => ∃ sv, e = .returned sv ∧ IntsAt w' sv l ∧ Below w.heap.size w w' := by
  obtain ⟨n', p, e1, e2, n1, n8, p1, p64, p8, -⟩ := h.nat
  obtain rfl : n' = n := by omega
  have hlp : l.length = p := by omega
  have HL := Lib.hid hlp
  have HRB := Lib.hid hr
  have HG0 : Hid (GAt (g.box w) w.heap.size g) := Lib.hid (GAt.box g w)
  have MK := fun w => make24 p p64 w
  have HB0 := Lib.hid (gbox_below g w)
  have hgp := e2
  clear h hl hn e1 hlp hr e2
  have c0 : (g.box w).cell? ⟨w.heap.size, 0, none⟩ = some (.int .i64 p) := by rw [← hgp]; exact HG0.out.p
  clear hgp
  go_enter Tryd.func17, Tryd.ntmps17
  go_wp2_with fail
  have HK0 : Hid (Blk ((g.box w).alloc (.cells (i64s (zeros p)).toArray 3)) (w.heap.size + 1) (i64s (zeros p))) := Lib.hid (by have := Blk.new (g.box w) (i64s (zeros p)).toArray 3; simpa using this)
  have HW0 := Lib.hid (HB0.out.alloc (by simp) (.cells (i64s (zeros p)).toArray 3))
  obtain ⟨q, hq⟩ : ∃ q, w.heap.size + 1 = q := ⟨_, rfl⟩
  have HQ : Hid (w.heap.size < q) := Lib.hid (by omega)
  rw [hq] at HK0 ⊢
  clear hq c0 HG0 MK
  go_loopg [14] p (fun z i wr => ∃ m : Nat, p - m ≤ z ∧ m ≤ p ∧ i = .int .i64 m ∧ Blk wr q (i64s (fill l p m)) ∧ Below w.heap.size w wr)
  case atStart => exact ⟨0, by omega, by omega, rfl, by rw [fill_zero]; exact HK0.out, HW0.out⟩
  case round =>
    obtain ⟨m, hz, hm, rfl, hk1, hb⟩ := hrel
    have HK := Lib.hid hk1
    have HW := Lib.hid hb
    clear hk1 hb HK0 HW0
    by_cases hlt : m < p
    · have hk1 : (m : Int) < (p : Int) := by omega
      have hx : l[m]? = some (l.getD m 0) := by
        have := HL.out
        rw [List.getD_eq_getElem?_getD, List.getElem?_eq_getElem (by omega)]
        rfl
      have HO := Lib.hid fun w => of_nat m (by omega) w
      have HC := HRB.out.cell (mk_head (l := l) (n := n') (p := m) (by omega))
      have HC := (HW.out.cell (block_lt_of_cell HC)).trans HC
      obtain ⟨x, hxe⟩ : ∃ x, l.getD m 0 = x := ⟨_, rfl⟩
      rw [hxe] at HC hx
      have HF := Lib.hid (fill_set HL.out hx)
      have d3 := HK.out.cell (fill_at HL.out hlt)
      have f3 := HK.out.frozen m
      clear hx hxe
      obtain ⟨u, hu⟩ : ∃ u, m / 8 = u := ⟨_, rfl⟩
      obtain ⟨v, hv⟩ : ∃ v, m % 8 = v := ⟨_, rfl⟩
      have hu1 : u < n' := by omega
      have hv1 : v < 8 := by omega
      rw [hu, hv] at HO HC
      have d2 : wr.cell? ⟨r, u * 45 + 37 + v, none⟩ = some (.int .i64 x) := by rw [Nat.add_assoc]; exact HC
      clear HC hu hv
      have hu2 : (u : Int) < (n' : Int) := by omega
      have hv2 : (v : Int) < 8 := by omega
      go_wp2_with fail
      refine (HO.out _).mono ?_
      rintro e w3 ⟨rfl, rfl⟩
      go_wp2_with fail
      go_roundg (p - (m + 1))
      case measure => omega
      case rel =>
        have hset := HK.out.set m (.int .i64 x)
        rw [HF.out] at hset
        exact ⟨m + 1, by omega, by omega, by go_num, hset, HW.out.setCell (Nat.le_of_lt HQ.out) _⟩
    · obtain rfl : p = m := by omega
      have hk1 : ¬ (p : Int) < (p : Int) := by omega
      go_wp2_with fail
      go_ret
      have hI := IntsAt.of_blk (cap := p) HK.out
      rw [fill_all HL.out, HL.out] at hI
      exact ⟨_, rfl, hI, HW.out⟩

theorem join_yes (g : Gm) (l : List Int) (h : Heads g l) (hsm : ∀ x ∈ l, Small x) (n : Nat) (hn : g.maps = n) (r : Nat) (w : World) (hr : Blk w r (row (mk l) n)) :
    Calls Tryd.prog 8 #[g.v, .slice (some ⟨r, 0, none⟩) n n] w fun e w' => ∃ sv, e = .returned (.tuple #[sv, .int .i64 0]) ∧ IntsAt w' sv l ∧ Below w.heap.size w w' := by
  have HP := Lib.hid fun w hs => bsp_yes g l h hsm n hn r w hs
  have HL := Lib.hid fun w hs => gather_yes g h.1 l h.2.1 n hn r w hs
  have HI := Lib.hid hr
  have HI0 := Lib.hid (HI.out.below (gbox_below g w) HI.out.lt)
  clear hn h hr
  go_enter Tryd.func8, Tryd.ntmps8
  go_wp2_with fail
  refine (HP.out _ HI0.out).mono ?_
  rintro e w1 ⟨rfl, hb⟩
  have HB := Lib.hid (box_call hb)
  clear hb
  obtain ⟨c0, c1, c2, c3⟩ := HB.out.2.1
  have HI1 := Lib.hid (HI.out.below HB.out.1 HI.out.lt)
  go_wp2_with fail
  refine (HL.out _ HI1.out).mono ?_
  rintro e w2 ⟨sv, rfl, hk, hb⟩
  have HK := Lib.hid hk
  have HB2 := Lib.hid (HB.out.1.trans (hb.mono HB.out.1.size))
  clear hk hb
  go_wp2_with fail
  go_ret2
  exact ⟨sv, rfl, HK.out, HB2.out⟩
end Go.Proofs.YtlmehhjgagddoaaDoor
