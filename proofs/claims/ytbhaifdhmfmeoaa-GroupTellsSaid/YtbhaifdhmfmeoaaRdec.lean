/- The statements' own reading of a sector. -/
import Derived.Test.YtbhaifdhmfmeoaaRenc
import Derived.Test.YtbhaifdhmfmeoaaDx
namespace Go.Proofs.Ytbhaifdhmfmeoaa
set_option linter.unusedSimpArgs false
set_option linter.unusedVariables false
open Go.RowKit

/-- What the fields of a sector say, no more bytes than a delta may have. -/
def rreadOf (s : List Int) : Bk := { readOf s with bytes := if kindOf s = 2 then (s.drop 8).take (min 16 (s.getD 7 0).toNat) else [] }
theorem rread_wf {s : List Int} (h : Sc s) : (rreadOf s).Wf :=
  { readOf_wf h with
    bytes := by
      unfold rreadOf
      split
      · simp only [List.length_take]
        omega
      · simp
    bytess := by
      unfold rreadOf
      split
      · exact fun x hx => h.bytes x (List.mem_of_mem_drop (List.mem_of_mem_take hx))
      · intro x hx
        cases hx }
theorem rread_same {s : List Int} (h : kindOf s = 2 → s.getD 7 0 ≤ 16) : rreadOf s = readOf s := by
  unfold rreadOf
  by_cases k : kindOf s = 2
  · have h7 : (s.getD 7 0).toNat - 16 = 0 := by have := h k; omega
    have e : (readOf s).bytes = (s.drop 8).take (min 16 (s.getD 7 0).toNat) := by
      simp only [readOf]
      rw [if_pos k, h7]
      simp only [zeros, List.replicate_zero, List.append_nil]
    rw [if_pos k, ← e]
  · have e : (readOf s).bytes = [] := by
      unfold readOf
      simp [k]
    rw [if_neg k, ← e]
theorem rread_is {s : List Int} (hs : Sc s) : ((rreadOf s).good && decide ((rreadOf s).enc (seqOf s) = s)) = isBlock s := by
  by_cases hk : kindOf s = 2 → s.getD 7 0 ≤ 16
  · rw [rread_same hk]
    rfl
  · have k2 : kindOf s = 2 := Classical.byContradiction fun h => hk fun h' => absurd h' h
    have h7 : 16 < s.getD 7 0 := by
      have : ¬ s.getD 7 0 ≤ 16 := fun h => hk fun _ => h
      omega
    have hb : isBlock s = false := by
      cases hb : isBlock s with
      | false => rfl
      | true =>
        exfalso
        have g := (is_good hb).1
        have := (good2 g k2).1.2
        have e : (readOf s).bytes = (s.drop 8).take (min 16 (s.getD 7 0).toNat) ++ zeros ((s.getD 7 0).toNat - 16) := by
          simp only [readOf]
          rw [if_pos k2]
        rw [e, List.length_append, List.length_take, List.length_drop, hs.length, zeros_length] at this
        omega
    rw [hb]
    cases hg : (rreadOf s).good with
    | false => rfl
    | true =>
      rw [Bool.true_and]
      refine decide_eq_false fun he => ?_
      have hd := (dlt_cells hg k2 (seqOf s)).2.1
      rw [he] at hd
      have hl := (good2 hg k2).1.2
      rw [List.getD_eq_getElem?_getD, hd] at h7
      simp at h7
      omega
/-- A reading: a block, its number, the error. -/
def gotA (b : Bk) (sv : Value) (n e : Int) : Array Value := (b.cells sv ++ [Value.int .u32 n, Value.int .i64 e]).toArray
theorem gotA_size {b : Bk} (h : b.Wf) (sv : Value) (n e : Int) : (gotA b sv n e).size = 47 := by
  have := b.cells_length h sv
  simp [gotA, this]
theorem info59 : (Try.prog.info? 59).map (·.size) = some 47 := by kernel_rfl
theorem zero59b : (Try.prog.info? 59).bind (·.zero) = some (.agg (gotA Bk.none nilv 0 0)) := by kernel_rfl
theorem built59e : Try.prog.built 59 [(2, .int .i64 11)] = some (gotA Bk.none nilv 0 11) := by kernel_rfl
theorem build59e (w : World) : (Instr.build 59 #[(2, .int .i64 11)]).run Try.prog w = .ok (.agg (gotA Bk.none nilv 0 11)) w := run_build w 59 _ _ built59e
theorem built59b {b : Bk} (hw : b.Wf) (sv : Value) (n : Int) : Try.prog.built 59 [(0, .agg (b.arr sv)), (1, .int .u32 n)] = some (gotA b sv n 0) := by
  have hp := hw.page
  have hh := hw.heads
  clear hw
  obtain ⟨k, i, pg, o, by_, pv, hd⟩ := b
  simp only at hp hh
  match pg, hp, hd, hh with
  | [p0, p1, p2, p3, p4, p5, p6, p7, p8, p9, p10, p11, p12, p13, p14, p15, p16, p17, p18, p19, p20, p21, p22, p23, p24, p25, p26, p27, p28, p29, p30, p31], _, [h0, h1, h2, h3, h4, h5, h6, h7], _ =>
    show Try.prog.built 59 _ = some _
    kernel_rfl
theorem build59b {b : Bk} (hw : b.Wf) (sv : Value) (n : Int) (w : World) : (Instr.build 59 #[(0, .agg (b.arr sv)), (1, .int .u32 n)]).run Try.prog w = .ok (.agg (gotA b sv n 0)) w := run_build w 59 _ _ (built59b hw sv n)
/-- A sector in a variable (g), the result's variable (r), the block's (t), all made behind W. -/
structure RU (W w : World) (g r t : Nat) (s : List Int) (b : Bk) (sv : Value) : Prop where
  sec : Blk w g (u8s s)
  res : Blk w r ((gotA Bk.none nilv 0 0).toList)
  blk : Blk w t (b.cells sv)
  bel : Below W.heap.size W w
  g0 : W.heap.size ≤ g
  gr : g < r
  rt : r < t
theorem RU.below {W w w' : World} {g r t : Nat} {s : List Int} {b : Bk} {sv : Value} (h : RU W w g r t s b sv) (hb : Below w.heap.size w w') : RU W w' g r t s b sv :=
  ⟨h.sec.below hb h.sec.lt, h.res.below hb h.res.lt, h.blk.below hb h.blk.lt, h.bel.trans (hb.mono h.bel.size), h.g0, h.gr, h.rt⟩
theorem RU.drew {W w : World} {g r t : Nat} {s : List Int} {b : Bk} {sv : Value} (h : RU W w g r t s b sv) : RU W w.drew g r t s b sv := h.below (Below.refl _ _).drew
theorem RU.put {W w w' : World} {g r t : Nat} {s : List Int} {b c : Bk} {sv cv : Value} (h : RU W w g r t s b sv) (hs : Blk w' t (c.cells cv)) (ho : Only (fun k => k = t) w w') : RU W w' g r t s c cv :=
  ⟨h.sec.only ho (by have := h.gr; have := h.rt; omega), h.res.only ho (by have := h.rt; omega), hs, h.bel.trans (ho.below h.bel.size (fun k hk => by have := h.g0; have := h.gr; have := h.rt; omega)), h.g0, h.gr, h.rt⟩
theorem RU.set {W w : World} {g r t : Nat} {s : List Int} {b c : Bk} {sv cv : Value} (h : RU W w g r t s b sv) (i : Nat) (x : Value) (e : (b.cells sv).set i x = c.cells cv) : RU W (w.setCell ⟨t, i, none⟩ x) g r t s c cv :=
  h.put (by have := h.blk.set i x; rwa [e] at this) ((Only.refl (fun k => k = t) w).setCell (p := ⟨t, i, none⟩) (.inl rfl) _)
theorem RU.seg {W w : World} {g r t : Nat} {s : List Int} {b : Bk} {sv : Value} (h : RU W w g r t s b sv) (o n : Nat) (j : Nat) (v : Int) (hv : ((s.drop o).take n)[j]? = some v) : w.cell? ⟨g, o + j, none⟩ = some (.int .u8 v) := h.sec.cell (by
  have hj : j < n := by
    have := (List.getElem?_eq_some_iff.1 hv).1
    simp at this
    omega
  rw [List.getElem?_take_of_lt hj, List.getElem?_drop] at hv
  rw [List.getElem?_map, hv]
  rfl)
theorem RU.other {W w w' : World} {g r t m : Nat} {s : List Int} {b : Bk} {sv : Value} (h : RU W w g r t s b sv) (ho : Only (fun k => k = m) w w') (hm : t < m) : RU W w' g r t s b sv :=
  ⟨h.sec.only ho (by have := h.gr; have := h.rt; omega), h.res.only ho (by have := h.rt; omega), h.blk.only ho (by omega), h.bel.trans (ho.below h.bel.size (fun k hk => by have := h.g0; have := h.gr; have := h.rt; omega)), h.g0, h.gr, h.rt⟩
theorem RU.cell34 {W w : World} {g r t : Nat} {s : List Int} {b : Bk} {sv : Value} (h : RU W w g r t s b sv) (hp : b.page.length = 32) : w.cell? ⟨t, 34, none⟩ = some (.int .i64 b.off) := h.blk.cell (cell_at34 b hp sv 0)
theorem RU.cell35 {W w : World} {g r t : Nat} {s : List Int} {b : Bk} {sv : Value} (h : RU W w g r t s b sv) (hp : b.page.length = 32) : w.cell? ⟨t, 35, none⟩ = some sv := h.blk.cell (cell_at34 b hp sv 1)
theorem RU.cell36 {W w : World} {g r t : Nat} {s : List Int} {b : Bk} {sv : Value} (h : RU W w g r t s b sv) (hp : b.page.length = 32) : w.cell? ⟨t, 36, none⟩ = some (.int .i64 b.prev) := h.blk.cell (cell_at34 b hp sv 2)
theorem RU.cellH {W w : World} {g r t : Nat} {s : List Int} {b : Bk} {sv : Value} (h : RU W w g r t s b sv) (hp : b.page.length = 32) (k : Nat) : w.cell? ⟨t, 37 + k, none⟩ = (i64s b.heads)[k]? := by
  obtain ⟨ty, e⟩ := h.blk
  rw [cell_of_row w t _ _ ty _ e, List.getElem?_toArray]
  have := cell_at34 b hp sv (k + 3)
  rwa [show 34 + (k + 3) = 37 + k by omega] at this
theorem gotA_one (b : Bk) {w : World} {sv : Value} {l : List Int} (h : BytesAt w sv l) (n e : Int) : ∀ v ∈ gotA b sv n e, v.oneCell' = true := by
  intro v hv
  simp only [gotA, List.mem_toArray, List.mem_append, List.mem_cons, List.not_mem_nil, or_false] at hv
  rcases hv with hv | rfl | rfl
  · exact arr_form b h v (by simpa [Bk.arr] using hv)
  · rfl
  · rfl
set_option maxHeartbeats 2000000 in
set_option maxRecDepth 100000 in
theorem rdec_oth (s : List Int) (hs : Sc s) (hk : kindOf s ≠ 1 ∧ kindOf s ≠ 2 ∧ kindOf s ≠ 3) (w : World) : Calls Try.prog 24 #[.agg (u8s s).toArray] w fun e w' => ∃ sv, e = .returned (.agg (gotA (decB s) sv (decN s) (decE s))) ∧ BytesAt w' sv (decB s).bytes ∧ Below w.heap.size w w' ∧ Fresh w.heap.size sv := by
  have HS := Lib.hid hs
  have HSL : Hid ((u8s s).toArray.size = 64) := Lib.hid (by rw [u8s_size, hs.length])
  have HRW := Lib.hid (rread_wf hs)
  have HSR := Lib.hid (seqOf_range hs)
  have HIS := Lib.hid (rread_is hs)
  obtain ⟨hi1, hi2⟩ := sc_byte hs 1
  obtain ⟨id, hid⟩ : ∃ i, s.getD 1 0 = i := ⟨_, rfl⟩
  rw [hid] at hi1 hi2
  have HID := Lib.hid hid
  obtain ⟨hk1, hk2, hk3⟩ := hk
  have hk0 := sc_byte hs 0
  rw [show s.getD 0 0 = kindOf s from rfl] at hk0
  have hsl4 : ((s.drop 2).take 4).length = 4 := by rw [List.length_take, List.length_drop, hs.length]; omega
  go_enter Try.func24, Try.ntmps24
  repeat (first | (with_reducible refine stopR (id := 0) ?_) | go_values | go_skip | go_guarded | go_step | go_upon | go_back)
  refine Stop.mk (wp_region_lit ?_)
  refine box_g rfl rfl ?_
  intro wA hA hB hl
  try simp only [Act.put, List.setIfInBounds_toArray, List.set_cons_succ, List.set_cons_zero]
  refine alloc_g zero59b rfl ?_
  intro wB hR hB2 hl2
  try simp only [Act.put, List.setIfInBounds_toArray, List.set_cons_succ, List.set_cons_zero]
  have hA2 := hA.below hB2 hl
  have hBB := hB.trans (hB2.mono hB.size)
  refine wpList_nil ?_
  repeat (first | (with_reducible refine stopR (id := 1) ?_) | go_values | go_skip | go_guarded | go_step | go_upon | go_back)
  refine Stop.mk (wp_region_lit ?_)
  have c0 : wB.cell? ⟨w.heap.size, 0, none⟩ = some (.int .u8 (kindOf s)) := hA2.cell (sc_cell HS.out (by decide))
  have c1 : wB.cell? ⟨w.heap.size, 1, none⟩ = some (.int .u8 id) := by rw [← HID.out]; exact hA2.cell (sc_cell HS.out (by decide))
  refine takeL (.pointer (some ⟨w.heap.size, 0, none⟩)) rfl (by go_simp) ?_
  try simp only [Act.put, List.setIfInBounds_toArray, List.set_cons_succ, List.set_cons_zero]
  refine takeL (.int .u8 (kindOf s)) rfl (by go_simp) ?_
  try simp only [Act.put, List.setIfInBounds_toArray, List.set_cons_succ, List.set_cons_zero]
  refine takeL (.int .i64 (kindOf s)) rfl (by go_simp; exact wrap64 hk0.1 (by omega)) ?_
  try simp only [Act.put, List.setIfInBounds_toArray, List.set_cons_succ, List.set_cons_zero]
  refine takeL (.pointer (some ⟨w.heap.size, 1, none⟩)) rfl (by go_simp) ?_
  try simp only [Act.put, List.setIfInBounds_toArray, List.set_cons_succ, List.set_cons_zero]
  refine takeL (.int .u8 id) rfl (by go_simp) ?_
  try simp only [Act.put, List.setIfInBounds_toArray, List.set_cons_succ, List.set_cons_zero]
  refine takeL (.int .i64 id) rfl (by go_simp; exact wrap64 hi1 (by omega)) ?_
  try simp only [Act.put, List.setIfInBounds_toArray, List.set_cons_succ, List.set_cons_zero]
  refine takeL (.agg (Bk.arr ⟨(kindOf s), id, zeros 32, 0, [], 0, zeros 8⟩ nilv)) rfl (exec_build _ _ _ _ 57 #[(0, .tmp 10), (1, .tmp 13)] rfl #[(0, .int .i64 (kindOf s)), (1, .int .i64 id)] (by simp only [List.map_toArray, List.map_cons, List.map_nil]; rfl) _ (build57k (kindOf s) id _)) ?_
  try simp only [Act.put, List.setIfInBounds_toArray, List.set_cons_succ, List.set_cons_zero]
  refine alloc_g zero57b rfl ?_
  intro wC hC hBC hlC
  try simp only [Act.put, List.setIfInBounds_toArray, List.set_cons_succ, List.set_cons_zero]
  refine store_all hC (by rfl) (by exact info57) (cells_one _ _ _ _) rfl rfl rfl ?_
  intro wD hD hOD hlD
  try simp only [Act.put, List.setIfInBounds_toArray, List.set_cons_succ, List.set_cons_zero]
  have hBD := hBC.trans (hOD.below hBC.size (fun k hk => Nat.le_of_eq hk.symm))
  have H1 : Hid (RU w wD w.heap.size wA.heap.size wB.heap.size s ⟨(kindOf s), id, zeros 32, 0, [], 0, zeros 8⟩ nilv) := Lib.hid
    ⟨hA2.below hBD hA2.lt, hR.below hBD hR.lt, hD, hBB.trans (hBD.mono hBB.size), Nat.le_refl _, hl, hl2⟩
  clear c0 c1 hA hB hl hR hB2 hl2 hA2 hBB hC hBC hlC hD hOD hlD hBD
  generalize hgg : w.heap.size = g at *
  generalize wA.heap.size = r at *
  generalize wB.heap.size = t at *
  have HGG := Lib.hid hgg
  clear hgg wA wB wC
  refine wpList_nil ?_
  repeat (first | (with_reducible refine stopR (id := 2) ?_) | go_values | go_skip | go_guarded | go_step | go_upon | go_back)
  refine Stop.mk (wp_region_lit ?_)
  refine takeL (.slice (some ⟨g, 2, none⟩) 4 62) rfl (by go_simp) ?_
  try simp only [Act.put, List.setIfInBounds_toArray, List.set_cons_succ, List.set_cons_zero]
  refine wpList_op rfl fun K hK => ?_
  go_simp
  refine (rnum4_any wD g 2 62 ((s.drop 2).take 4) hsl4 (sc_seg HS.out 2 4) (fun i x hx => H1.out.seg 2 4 i x hx)).mono ?_
  rintro e w2 ⟨rfl, rfl⟩
  rw [show num ((s.drop 2).take 4) = seqOf s from rfl]
  refine hK _ _ ?_
  clear hK K hsl4
  try simp only [Act.put, List.setIfInBounds_toArray, List.set_cons_succ, List.set_cons_zero]
  refine takeL (.int .u32 (seqOf s)) rfl (by go_simp) ?_
  try simp only [Act.put, List.setIfInBounds_toArray, List.set_cons_succ, List.set_cons_zero]
  have ck : wD.cell? ⟨t, 0, none⟩ = some (.int .i64 (kindOf s)) := H1.out.blk.cell rfl
  refine wpList_nil ?_
  have HBYT := Lib.hid (show BytesAt _ nilv (rreadOf s).bytes from by
    rw [show (rreadOf s).bytes = [] from by simp only [rreadOf]; rw [if_neg (by omega)]]
    exact BytesAt.nil wD _ _)
  have HFRR : Hid (∀ b o n c, nilv = .slice (some ⟨b, o, none⟩) n c → b ≠ r) := Lib.hid fun b o n c h => by cases h
  have HBQ := H1.out
  rw [(show (⟨kindOf s, id, zeros 32, 0, [], 0, zeros 8⟩ : Bk) = rreadOf s from by rw [← HID.out]; unfold rreadOf readOf; simp [hk1, hk2, hk3])] at HBQ
  have H2 := Lib.hid HBQ
  clear HBQ
  have HEN := Lib.hid fun w h => rencode_any (rreadOf s) nilv (seqOf s) w h HRW.out HSR.out
  repeat (first | (with_reducible refine stopR (id := 14) ?_) | go_values | go_skip | go_guarded | go_step | go_upon | go_back)
  refine Stop.mk (wp_region_lit ?_)
  refine load57 (cs := (rreadOf s).arr nilv) (Blk.all H2.out.blk rfl) ((rreadOf s).arr_size HRW.out _) rfl rfl ?_
  try simp only [Act.put, List.setIfInBounds_toArray, List.set_cons_succ, List.set_cons_zero]
  refine takeL (.int .u32 (seqOf s)) rfl (by go_simp) ?_
  try simp only [Act.put, List.setIfInBounds_toArray, List.set_cons_succ, List.set_cons_zero]
  refine wpList_op rfl fun K hK => ?_
  go_simp
  refine (HEN.out _ HBYT.out).mono ?_
  rintro e w3 ⟨rfl, hb⟩
  have H3 := Lib.hid (H2.out.below hb)
  have HB3 := Lib.hid (HBYT.out.below hb)
  refine hK _ _ ?_
  clear hK K hb H2 HBYT HEN
  try simp only [Act.put, List.setIfInBounds_toArray, List.set_cons_succ, List.set_cons_zero]
  refine takeL (.tuple #[.agg (u8s ((rreadOf s).sec (seqOf s))).toArray, .int .i64 (rreadOf s).err]) rfl (by go_simp) ?_
  try simp only [Act.put, List.setIfInBounds_toArray, List.set_cons_succ, List.set_cons_zero]
  refine takeL (.agg (u8s ((rreadOf s).sec (seqOf s))).toArray) rfl (by go_simp) ?_
  try simp only [Act.put, List.setIfInBounds_toArray, List.set_cons_succ, List.set_cons_zero]
  refine takeL (.int .i64 (rreadOf s).err) rfl (by go_simp) ?_
  try simp only [Act.put, List.setIfInBounds_toArray, List.set_cons_succ, List.set_cons_zero]
  have HSE := Lib.hid (sec_length HRW.out (seqOf s))
  refine alloc_g zero50 rfl ?_
  intro wC hC hBC hlC
  try simp only [Act.put, List.setIfInBounds_toArray, List.set_cons_succ, List.set_cons_zero]
  refine store_all (cs := (u8s ((rreadOf s).sec (seqOf s))).toArray) hC (by rw [u8s_size, HSE.out]; simp [zeros]) (by rw [u8s_size, HSE.out]; exact info50) (u8s_one _) rfl rfl rfl ?_
  intro wE hD hOD hlD
  try simp only [Act.put, List.setIfInBounds_toArray, List.set_cons_succ, List.set_cons_zero]
  have hBD := hBC.trans (hOD.below hBC.size (fun k hk => Nat.le_of_eq hk.symm))
  have H4 := Lib.hid (H3.out.below hBD)
  have HB4 := Lib.hid (HB3.out.below hBD)
  have HD4 := Lib.hid hD
  clear hC hBC hlC hD hOD hlD hBD H3 HB3
  generalize w3.heap.size = x at *
  clear w3 wC
  refine takeL (.int .i64 (rreadOf s).err) rfl (by go_simp) ?_
  try simp only [Act.put, List.setIfInBounds_toArray, List.set_cons_succ, List.set_cons_zero]
  refine wpList_nil ?_
  repeat (first | (with_reducible refine stopR (id := 15) ?_) | go_values | go_skip | go_guarded | go_step | go_upon | go_back)
  refine Stop.mk (wp_region_lit ?_)
  cases hg : (rreadOf s).good
  · have HSX : Hid ((rreadOf s).err = 11) := Lib.hid (err_bad hg)
    rw [HSX.out]
    have hnb : isBlock s = false := by rw [← HIS.out, hg]; rfl
    refine takeL (.int .i64 11) rfl (by go_simp) ?_
    try simp only [Act.put, List.setIfInBounds_toArray, List.set_cons_succ, List.set_cons_zero]
    refine takeL (.bool true) rfl (by go_simp) ?_
    try simp only [Act.put, List.setIfInBounds_toArray, List.set_cons_succ, List.set_cons_zero]
    refine takeL (.bool true) rfl (by go_simp) ?_
    try simp only [Act.put, List.setIfInBounds_toArray, List.set_cons_succ, List.set_cons_zero]
    refine passL rfl ?_
    try simp only [Act.put, List.setIfInBounds_toArray, List.set_cons_succ, List.set_cons_zero]
    refine passL rfl ?_
    try simp only [Act.put, List.setIfInBounds_toArray, List.set_cons_succ, List.set_cons_zero]
    refine passL rfl ?_
    try simp only [Act.put, List.setIfInBounds_toArray, List.set_cons_succ, List.set_cons_zero]
    refine takeL (.bool true) rfl (by go_simp) ?_
    try simp only [Act.put, List.setIfInBounds_toArray, List.set_cons_succ, List.set_cons_zero]
    refine wpList_nil ?_
    repeat (first | (with_reducible refine stopR (id := 16) ?_) | go_values | go_skip | go_guarded | go_step | go_upon | go_back)
    refine Stop.mk (wp_region_lit ?_)
    refine takeL (.agg (gotA Bk.none nilv 0 11)) rfl (exec_build _ _ _ _ 59 _ rfl #[(2, .int .i64 11)] (by simp only [List.map_toArray, List.map_cons, List.map_nil]; rfl) _ (build59e _)) ?_
    try simp only [Act.put, List.setIfInBounds_toArray, List.set_cons_succ, List.set_cons_zero]
    refine store_all (cs := gotA Bk.none nilv 0 11) H4.out.res (by rfl) (by exact info59) (gotA_one _ (BytesAt.nil w _ _) _ _) rfl rfl rfl ?_
    intro wZ hZ hOZ hlZ
    try simp only [Act.put, List.setIfInBounds_toArray, List.set_cons_succ, List.set_cons_zero]
    have HF := Lib.hid (H4.out.bel.trans (hOZ.below H4.out.bel.size (fun k hk => by have := H4.out.g0; have := H4.out.gr; omega)))
    refine wpList_nil ?_
    go_wp2_with fail
    refine bodyPost_ret (v := .agg (gotA Bk.none nilv 0 11)) (results_cell_at rfl _ _ r 0 _ _ rfl Try.underlying59 rfl (by exact info59) (Blk.all hZ rfl)) rfl ⟨nilv, by rw [(dec_no hnb).1, (dec_no hnb).2.1, (dec_no hnb).2.2], by rw [(dec_no hnb).1]; exact BytesAt.nil _ _ _, HF.out, Fresh.nil _⟩
  · have HSX : Hid ((rreadOf s).err = 0) := Lib.hid (err_good hg)
    have HSS : Hid ((rreadOf s).sec (seqOf s) = (rreadOf s).enc (seqOf s)) := Lib.hid (sec_good hg _)
    have HNQ := Lib.hid fun w => neq50 w ((rreadOf s).sec (seqOf s)) s HSE.out HS.out.length
    rw [HSX.out]
    refine takeL (.int .i64 0) rfl (by go_simp) ?_
    try simp only [Act.put, List.setIfInBounds_toArray, List.set_cons_succ, List.set_cons_zero]
    refine takeL (.bool false) rfl (by go_simp) ?_
    try simp only [Act.put, List.setIfInBounds_toArray, List.set_cons_succ, List.set_cons_zero]
    refine takeL (.bool false) rfl (by go_simp) ?_
    try simp only [Act.put, List.setIfInBounds_toArray, List.set_cons_succ, List.set_cons_zero]
    refine load50 (cs := (u8s ((rreadOf s).sec (seqOf s))).toArray) (Blk.all HD4.out rfl) (by rw [u8s_size, HSE.out]) rfl rfl ?_
    try simp only [Act.put, List.setIfInBounds_toArray, List.set_cons_succ, List.set_cons_zero]
    refine load50 (cs := (u8s s).toArray) (Blk.all H4.out.sec rfl) HSL.out rfl rfl ?_
    try simp only [Act.put, List.setIfInBounds_toArray, List.set_cons_succ, List.set_cons_zero]
    by_cases he : (rreadOf s).sec (seqOf s) = s
    · have hnb : isBlock s = true := by rw [← HIS.out, hg, ← HSS.out, he]; simp
      simp only [he, decide_true] at HNQ
      refine takeL (.bool false) rfl (by have hq := HNQ.out; go_simp) ?_
      try simp only [Act.put, List.setIfInBounds_toArray, List.set_cons_succ, List.set_cons_zero]
      refine takeL (.bool false) rfl (by go_simp) ?_
      try simp only [Act.put, List.setIfInBounds_toArray, List.set_cons_succ, List.set_cons_zero]
      refine wpList_nil ?_
      repeat (first | (with_reducible refine stopR (id := 17) ?_) | go_values | go_skip | go_guarded | go_step | go_upon | go_back)
      refine Stop.mk (wp_region_lit ?_)
      refine load57 (cs := (rreadOf s).arr nilv) (Blk.all H4.out.blk rfl) ((rreadOf s).arr_size HRW.out _) rfl rfl ?_
      try simp only [Act.put, List.setIfInBounds_toArray, List.set_cons_succ, List.set_cons_zero]
      refine takeL (.int .u32 (seqOf s)) rfl (by go_simp) ?_
      try simp only [Act.put, List.setIfInBounds_toArray, List.set_cons_succ, List.set_cons_zero]
      refine takeL (.agg (gotA (rreadOf s) nilv (seqOf s) 0)) rfl (exec_build _ _ _ _ 59 _ rfl #[(0, .agg ((rreadOf s).arr nilv)), (1, .int .u32 (seqOf s))] (by simp only [List.map_toArray, List.map_cons, List.map_nil]; rfl) _ (build59b HRW.out _ _ _)) ?_
      try simp only [Act.put, List.setIfInBounds_toArray, List.set_cons_succ, List.set_cons_zero]
      refine store_all (cs := gotA (rreadOf s) nilv (seqOf s) 0) H4.out.res (by rw [gotA_size HRW.out]; rfl) (by rw [gotA_size HRW.out]; exact info59) (gotA_one _ HB4.out _ _) rfl rfl rfl ?_
      intro wZ hZ hOZ hlZ
      try simp only [Act.put, List.setIfInBounds_toArray, List.set_cons_succ, List.set_cons_zero]
      have HF := Lib.hid (H4.out.bel.trans (hOZ.below H4.out.bel.size (fun k hk => by have := H4.out.g0; have := H4.out.gr; omega)))
      have HRQ : Hid (rreadOf s = readOf s) := Lib.hid (rread_same fun k2 => Classical.byContradiction fun h7 => by
        have g := (is_good hnb).1
        have := (good2 g k2).1.2
        have e : (readOf s).bytes = (s.drop 8).take (min 16 (s.getD 7 0).toNat) ++ zeros ((s.getD 7 0).toNat - 16) := by
          simp only [readOf]
          rw [if_pos k2]
        rw [e, List.length_append, List.length_take, List.length_drop, HS.out.length, zeros_length] at this
        omega)
      refine wpList_nil ?_
      go_wp2_with fail
      refine bodyPost_ret (v := .agg (gotA (rreadOf s) nilv (seqOf s) 0)) (results_cell_at rfl _ _ r 0 _ _ rfl Try.underlying59 rfl (by rw [gotA_size HRW.out]; exact info59) (Blk.all hZ rfl)) rfl ⟨nilv, by rw [(dec_yes hnb).1, (dec_yes hnb).2.1, (dec_yes hnb).2.2, HRQ.out], ?_, HF.out, Fresh.nil _⟩
      rw [(dec_yes hnb).1, ← HRQ.out]
      exact HB4.out.only hOZ HFRR.out
    · have hnb : isBlock s = false := by rw [← HIS.out, hg, ← HSS.out]; simpa using he
      simp only [he, decide_false] at HNQ
      refine takeL (.bool true) rfl (by have hq := HNQ.out; go_simp) ?_
      try simp only [Act.put, List.setIfInBounds_toArray, List.set_cons_succ, List.set_cons_zero]
      refine takeL (.bool true) rfl (by go_simp) ?_
      try simp only [Act.put, List.setIfInBounds_toArray, List.set_cons_succ, List.set_cons_zero]
      refine wpList_nil ?_
      repeat (first | (with_reducible refine stopR (id := 16) ?_) | go_values | go_skip | go_guarded | go_step | go_upon | go_back)
      refine Stop.mk (wp_region_lit ?_)
      refine takeL (.agg (gotA Bk.none nilv 0 11)) rfl (exec_build _ _ _ _ 59 _ rfl #[(2, .int .i64 11)] (by simp only [List.map_toArray, List.map_cons, List.map_nil]; rfl) _ (build59e _)) ?_
      try simp only [Act.put, List.setIfInBounds_toArray, List.set_cons_succ, List.set_cons_zero]
      refine store_all (cs := gotA Bk.none nilv 0 11) H4.out.res (by rfl) (by exact info59) (gotA_one _ (BytesAt.nil w _ _) _ _) rfl rfl rfl ?_
      intro wZ hZ hOZ hlZ
      try simp only [Act.put, List.setIfInBounds_toArray, List.set_cons_succ, List.set_cons_zero]
      have HF := Lib.hid (H4.out.bel.trans (hOZ.below H4.out.bel.size (fun k hk => by have := H4.out.g0; have := H4.out.gr; omega)))
      refine wpList_nil ?_
      go_wp2_with fail
      refine bodyPost_ret (v := .agg (gotA Bk.none nilv 0 11)) (results_cell_at rfl _ _ r 0 _ _ rfl Try.underlying59 rfl (by exact info59) (Blk.all hZ rfl)) rfl ⟨nilv, by rw [(dec_no hnb).1, (dec_no hnb).2.1, (dec_no hnb).2.2], by rw [(dec_no hnb).1]; exact BytesAt.nil _ _ _, HF.out, Fresh.nil _⟩
set_option maxHeartbeats 2000000 in
set_option maxRecDepth 100000 in
theorem rdec_img (s : List Int) (hs : Sc s) (hk : kindOf s = 1) (w : World) : Calls Try.prog 24 #[.agg (u8s s).toArray] w fun e w' => ∃ sv, e = .returned (.agg (gotA (decB s) sv (decN s) (decE s))) ∧ BytesAt w' sv (decB s).bytes ∧ Below w.heap.size w w' ∧ Fresh w.heap.size sv := by
  have HS := Lib.hid hs
  have HSL : Hid ((u8s s).toArray.size = 64) := Lib.hid (by rw [u8s_size, hs.length])
  have HRW := Lib.hid (rread_wf hs)
  have HSR := Lib.hid (seqOf_range hs)
  have HIS := Lib.hid (rread_is hs)
  obtain ⟨hi1, hi2⟩ := sc_byte hs 1
  obtain ⟨id, hid⟩ : ∃ i, s.getD 1 0 = i := ⟨_, rfl⟩
  rw [hid] at hi1 hi2
  have HID := Lib.hid hid
  have HK := Lib.hid hk
  have hk0 := sc_byte hs 0
  clear hk0
  have hsl4 : ((s.drop 2).take 4).length = 4 := by rw [List.length_take, List.length_drop, hs.length]; omega
  go_enter Try.func24, Try.ntmps24
  repeat (first | (with_reducible refine stopR (id := 0) ?_) | go_values | go_skip | go_guarded | go_step | go_upon | go_back)
  refine Stop.mk (wp_region_lit ?_)
  refine box_g rfl rfl ?_
  intro wA hA hB hl
  try simp only [Act.put, List.setIfInBounds_toArray, List.set_cons_succ, List.set_cons_zero]
  refine alloc_g zero59b rfl ?_
  intro wB hR hB2 hl2
  try simp only [Act.put, List.setIfInBounds_toArray, List.set_cons_succ, List.set_cons_zero]
  have hA2 := hA.below hB2 hl
  have hBB := hB.trans (hB2.mono hB.size)
  refine wpList_nil ?_
  repeat (first | (with_reducible refine stopR (id := 1) ?_) | go_values | go_skip | go_guarded | go_step | go_upon | go_back)
  refine Stop.mk (wp_region_lit ?_)
  have c0 : wB.cell? ⟨w.heap.size, 0, none⟩ = some (.int .u8 (kindOf s)) := hA2.cell (sc_cell HS.out (by decide))
  rw [HK.out] at c0
  have c1 : wB.cell? ⟨w.heap.size, 1, none⟩ = some (.int .u8 id) := by rw [← HID.out]; exact hA2.cell (sc_cell HS.out (by decide))
  refine takeL (.pointer (some ⟨w.heap.size, 0, none⟩)) rfl (by go_simp) ?_
  try simp only [Act.put, List.setIfInBounds_toArray, List.set_cons_succ, List.set_cons_zero]
  refine takeL (.int .u8 1) rfl (by go_simp) ?_
  try simp only [Act.put, List.setIfInBounds_toArray, List.set_cons_succ, List.set_cons_zero]
  refine takeL (.int .i64 1) rfl (by go_simp; rfl) ?_
  try simp only [Act.put, List.setIfInBounds_toArray, List.set_cons_succ, List.set_cons_zero]
  refine takeL (.pointer (some ⟨w.heap.size, 1, none⟩)) rfl (by go_simp) ?_
  try simp only [Act.put, List.setIfInBounds_toArray, List.set_cons_succ, List.set_cons_zero]
  refine takeL (.int .u8 id) rfl (by go_simp) ?_
  try simp only [Act.put, List.setIfInBounds_toArray, List.set_cons_succ, List.set_cons_zero]
  refine takeL (.int .i64 id) rfl (by go_simp; exact wrap64 hi1 (by omega)) ?_
  try simp only [Act.put, List.setIfInBounds_toArray, List.set_cons_succ, List.set_cons_zero]
  refine takeL (.agg (Bk.arr ⟨1, id, zeros 32, 0, [], 0, zeros 8⟩ nilv)) rfl (exec_build _ _ _ _ 57 #[(0, .tmp 10), (1, .tmp 13)] rfl #[(0, .int .i64 1), (1, .int .i64 id)] (by simp only [List.map_toArray, List.map_cons, List.map_nil]; rfl) _ (build57k 1 id _)) ?_
  try simp only [Act.put, List.setIfInBounds_toArray, List.set_cons_succ, List.set_cons_zero]
  refine alloc_g zero57b rfl ?_
  intro wC hC hBC hlC
  try simp only [Act.put, List.setIfInBounds_toArray, List.set_cons_succ, List.set_cons_zero]
  refine store_all hC (by rfl) (by exact info57) (cells_one _ _ _ _) rfl rfl rfl ?_
  intro wD hD hOD hlD
  try simp only [Act.put, List.setIfInBounds_toArray, List.set_cons_succ, List.set_cons_zero]
  have hBD := hBC.trans (hOD.below hBC.size (fun k hk => Nat.le_of_eq hk.symm))
  have H1 : Hid (RU w wD w.heap.size wA.heap.size wB.heap.size s ⟨1, id, zeros 32, 0, [], 0, zeros 8⟩ nilv) := Lib.hid
    ⟨hA2.below hBD hA2.lt, hR.below hBD hR.lt, hD, hBB.trans (hBD.mono hBB.size), Nat.le_refl _, hl, hl2⟩
  clear c0 c1 hA hB hl hR hB2 hl2 hA2 hBB hC hBC hlC hD hOD hlD hBD
  generalize hgg : w.heap.size = g at *
  generalize wA.heap.size = r at *
  generalize wB.heap.size = t at *
  have HGG := Lib.hid hgg
  clear hgg wA wB wC
  refine wpList_nil ?_
  repeat (first | (with_reducible refine stopR (id := 2) ?_) | go_values | go_skip | go_guarded | go_step | go_upon | go_back)
  refine Stop.mk (wp_region_lit ?_)
  refine takeL (.slice (some ⟨g, 2, none⟩) 4 62) rfl (by go_simp) ?_
  try simp only [Act.put, List.setIfInBounds_toArray, List.set_cons_succ, List.set_cons_zero]
  refine wpList_op rfl fun K hK => ?_
  go_simp
  refine (rnum4_any wD g 2 62 ((s.drop 2).take 4) hsl4 (sc_seg HS.out 2 4) (fun i x hx => H1.out.seg 2 4 i x hx)).mono ?_
  rintro e w2 ⟨rfl, rfl⟩
  rw [show num ((s.drop 2).take 4) = seqOf s from rfl]
  refine hK _ _ ?_
  clear hK K hsl4
  try simp only [Act.put, List.setIfInBounds_toArray, List.set_cons_succ, List.set_cons_zero]
  refine takeL (.int .u32 (seqOf s)) rfl (by go_simp) ?_
  try simp only [Act.put, List.setIfInBounds_toArray, List.set_cons_succ, List.set_cons_zero]
  have ck : wD.cell? ⟨t, 0, none⟩ = some (.int .i64 1) := H1.out.blk.cell rfl
  refine wpList_nil ?_
  go_wp2_with fail
  refine startH (fun _ => True) (by kernel_rfl) ?_
  refine takeH 0 (some 21) (.pointer (some ⟨t, 2, none⟩)) rfl rfl (by kernel_rfl) (by kernel_rfl) (by kernel_rfl) (fun _ _ _ h => h) rfl (fun w _ => by go_simp) trivial ?_
  try simp only [Act.put, List.setIfInBounds_toArray, List.set_cons_succ, List.set_cons_zero]
  refine takeH 1 (some 22) (.slice (some ⟨t, 2, none⟩) 32 32) rfl rfl (by kernel_rfl) (by kernel_rfl) (by kernel_rfl) (fun _ _ _ h => h) rfl (fun w _ => by go_simp) trivial ?_
  try simp only [Act.put, List.setIfInBounds_toArray, List.set_cons_succ, List.set_cons_zero]
  refine takeH 2 (some 23) (.slice (some ⟨g, 6, none⟩) 32 58) rfl rfl (by kernel_rfl) (by kernel_rfl) (by kernel_rfl) (fun _ _ _ h => h) rfl (fun w _ => by go_simp) trivial ?_
  try simp only [Act.put, List.setIfInBounds_toArray, List.set_cons_succ, List.set_cons_zero]
  refine oneH 3 (by kernel_rfl) rfl rfl fun K hK => ?_
  have hl32 : ((s.drop 6).take 32).length = 32 := by simp [HS.out.length]
  refine wp_copy _ _ rfl Try.underlying54 info5s t 2 32 32 g 6 32 58 rfl rfl _ ((s.drop 6).take 32) H1.out.drew.blk (by rw [hl32]; rfl) (fun j v hv => H1.out.drew.seg 6 32 j v hv) (by rw [hl32]; simp [Bk.cells, zeros]) (some 24) rfl fun wC hb ho => ?_
  rw [cells_page _ rfl _ _ hl32] at hb
  have H1b := Lib.hid (H1.out.drew.put hb ho)
  refine hK _ _ trivial ?_
  clear hK K hb ho H1 ck
  try simp only [Act.put, List.setIfInBounds_toArray, List.set_cons_succ, List.set_cons_zero]
  refine wpAnyH_done (by kernel_rfl) ?_ _
  have HBYT := Lib.hid (show BytesAt _ nilv (rreadOf s).bytes from by
    rw [show (rreadOf s).bytes = [] from by simp only [rreadOf]; rw [if_neg (by rw [HK.out]; decide)]]
    exact BytesAt.nil wC _ _)
  have HFRR : Hid (∀ b o n c, nilv = .slice (some ⟨b, o, none⟩) n c → b ≠ r) := Lib.hid fun b o n c h => by cases h
  have HBQ := H1b.out
  rw [(show ({ (⟨1, id, zeros 32, 0, [], 0, zeros 8⟩ : Bk) with page := (s.drop 6).take 32 }) = rreadOf s from by rw [← HID.out]; unfold rreadOf readOf; simp [HK.out])] at HBQ
  have H2 := Lib.hid HBQ
  clear HBQ
  have HEN := Lib.hid fun w h => rencode_any (rreadOf s) nilv (seqOf s) w h HRW.out HSR.out
  repeat (first | (with_reducible refine stopR (id := 14) ?_) | go_values | go_skip | go_guarded | go_step | go_upon | go_back)
  refine Stop.mk (wp_region_lit ?_)
  refine load57 (cs := (rreadOf s).arr nilv) (Blk.all H2.out.blk rfl) ((rreadOf s).arr_size HRW.out _) rfl rfl ?_
  try simp only [Act.put, List.setIfInBounds_toArray, List.set_cons_succ, List.set_cons_zero]
  refine takeL (.int .u32 (seqOf s)) rfl (by go_simp) ?_
  try simp only [Act.put, List.setIfInBounds_toArray, List.set_cons_succ, List.set_cons_zero]
  refine wpList_op rfl fun K hK => ?_
  go_simp
  refine (HEN.out _ HBYT.out).mono ?_
  rintro e w3 ⟨rfl, hb⟩
  have H3 := Lib.hid (H2.out.below hb)
  have HB3 := Lib.hid (HBYT.out.below hb)
  refine hK _ _ ?_
  clear hK K hb H2 HBYT HEN
  try simp only [Act.put, List.setIfInBounds_toArray, List.set_cons_succ, List.set_cons_zero]
  refine takeL (.tuple #[.agg (u8s ((rreadOf s).sec (seqOf s))).toArray, .int .i64 (rreadOf s).err]) rfl (by go_simp) ?_
  try simp only [Act.put, List.setIfInBounds_toArray, List.set_cons_succ, List.set_cons_zero]
  refine takeL (.agg (u8s ((rreadOf s).sec (seqOf s))).toArray) rfl (by go_simp) ?_
  try simp only [Act.put, List.setIfInBounds_toArray, List.set_cons_succ, List.set_cons_zero]
  refine takeL (.int .i64 (rreadOf s).err) rfl (by go_simp) ?_
  try simp only [Act.put, List.setIfInBounds_toArray, List.set_cons_succ, List.set_cons_zero]
  have HSE := Lib.hid (sec_length HRW.out (seqOf s))
  refine alloc_g zero50 rfl ?_
  intro wC hC hBC hlC
  try simp only [Act.put, List.setIfInBounds_toArray, List.set_cons_succ, List.set_cons_zero]
  refine store_all (cs := (u8s ((rreadOf s).sec (seqOf s))).toArray) hC (by rw [u8s_size, HSE.out]; simp [zeros]) (by rw [u8s_size, HSE.out]; exact info50) (u8s_one _) rfl rfl rfl ?_
  intro wE hD hOD hlD
  try simp only [Act.put, List.setIfInBounds_toArray, List.set_cons_succ, List.set_cons_zero]
  have hBD := hBC.trans (hOD.below hBC.size (fun k hk => Nat.le_of_eq hk.symm))
  have H4 := Lib.hid (H3.out.below hBD)
  have HB4 := Lib.hid (HB3.out.below hBD)
  have HD4 := Lib.hid hD
  clear hC hBC hlC hD hOD hlD hBD H3 HB3
  generalize w3.heap.size = x at *
  clear w3 wC
  refine takeL (.int .i64 (rreadOf s).err) rfl (by go_simp) ?_
  try simp only [Act.put, List.setIfInBounds_toArray, List.set_cons_succ, List.set_cons_zero]
  refine wpList_nil ?_
  repeat (first | (with_reducible refine stopR (id := 15) ?_) | go_values | go_skip | go_guarded | go_step | go_upon | go_back)
  refine Stop.mk (wp_region_lit ?_)
  cases hg : (rreadOf s).good
  · have HSX : Hid ((rreadOf s).err = 11) := Lib.hid (err_bad hg)
    rw [HSX.out]
    have hnb : isBlock s = false := by rw [← HIS.out, hg]; rfl
    refine takeL (.int .i64 11) rfl (by go_simp) ?_
    try simp only [Act.put, List.setIfInBounds_toArray, List.set_cons_succ, List.set_cons_zero]
    refine takeL (.bool true) rfl (by go_simp) ?_
    try simp only [Act.put, List.setIfInBounds_toArray, List.set_cons_succ, List.set_cons_zero]
    refine takeL (.bool true) rfl (by go_simp) ?_
    try simp only [Act.put, List.setIfInBounds_toArray, List.set_cons_succ, List.set_cons_zero]
    refine passL rfl ?_
    try simp only [Act.put, List.setIfInBounds_toArray, List.set_cons_succ, List.set_cons_zero]
    refine passL rfl ?_
    try simp only [Act.put, List.setIfInBounds_toArray, List.set_cons_succ, List.set_cons_zero]
    refine passL rfl ?_
    try simp only [Act.put, List.setIfInBounds_toArray, List.set_cons_succ, List.set_cons_zero]
    refine takeL (.bool true) rfl (by go_simp) ?_
    try simp only [Act.put, List.setIfInBounds_toArray, List.set_cons_succ, List.set_cons_zero]
    refine wpList_nil ?_
    repeat (first | (with_reducible refine stopR (id := 16) ?_) | go_values | go_skip | go_guarded | go_step | go_upon | go_back)
    refine Stop.mk (wp_region_lit ?_)
    refine takeL (.agg (gotA Bk.none nilv 0 11)) rfl (exec_build _ _ _ _ 59 _ rfl #[(2, .int .i64 11)] (by simp only [List.map_toArray, List.map_cons, List.map_nil]; rfl) _ (build59e _)) ?_
    try simp only [Act.put, List.setIfInBounds_toArray, List.set_cons_succ, List.set_cons_zero]
    refine store_all (cs := gotA Bk.none nilv 0 11) H4.out.res (by rfl) (by exact info59) (gotA_one _ (BytesAt.nil w _ _) _ _) rfl rfl rfl ?_
    intro wZ hZ hOZ hlZ
    try simp only [Act.put, List.setIfInBounds_toArray, List.set_cons_succ, List.set_cons_zero]
    have HF := Lib.hid (H4.out.bel.trans (hOZ.below H4.out.bel.size (fun k hk => by have := H4.out.g0; have := H4.out.gr; omega)))
    refine wpList_nil ?_
    go_wp2_with fail
    refine bodyPost_ret (v := .agg (gotA Bk.none nilv 0 11)) (results_cell_at rfl _ _ r 0 _ _ rfl Try.underlying59 rfl (by exact info59) (Blk.all hZ rfl)) rfl ⟨nilv, by rw [(dec_no hnb).1, (dec_no hnb).2.1, (dec_no hnb).2.2], by rw [(dec_no hnb).1]; exact BytesAt.nil _ _ _, HF.out, Fresh.nil _⟩
  · have HSX : Hid ((rreadOf s).err = 0) := Lib.hid (err_good hg)
    have HSS : Hid ((rreadOf s).sec (seqOf s) = (rreadOf s).enc (seqOf s)) := Lib.hid (sec_good hg _)
    have HNQ := Lib.hid fun w => neq50 w ((rreadOf s).sec (seqOf s)) s HSE.out HS.out.length
    rw [HSX.out]
    refine takeL (.int .i64 0) rfl (by go_simp) ?_
    try simp only [Act.put, List.setIfInBounds_toArray, List.set_cons_succ, List.set_cons_zero]
    refine takeL (.bool false) rfl (by go_simp) ?_
    try simp only [Act.put, List.setIfInBounds_toArray, List.set_cons_succ, List.set_cons_zero]
    refine takeL (.bool false) rfl (by go_simp) ?_
    try simp only [Act.put, List.setIfInBounds_toArray, List.set_cons_succ, List.set_cons_zero]
    refine load50 (cs := (u8s ((rreadOf s).sec (seqOf s))).toArray) (Blk.all HD4.out rfl) (by rw [u8s_size, HSE.out]) rfl rfl ?_
    try simp only [Act.put, List.setIfInBounds_toArray, List.set_cons_succ, List.set_cons_zero]
    refine load50 (cs := (u8s s).toArray) (Blk.all H4.out.sec rfl) HSL.out rfl rfl ?_
    try simp only [Act.put, List.setIfInBounds_toArray, List.set_cons_succ, List.set_cons_zero]
    by_cases he : (rreadOf s).sec (seqOf s) = s
    · have hnb : isBlock s = true := by rw [← HIS.out, hg, ← HSS.out, he]; simp
      simp only [he, decide_true] at HNQ
      refine takeL (.bool false) rfl (by have hq := HNQ.out; go_simp) ?_
      try simp only [Act.put, List.setIfInBounds_toArray, List.set_cons_succ, List.set_cons_zero]
      refine takeL (.bool false) rfl (by go_simp) ?_
      try simp only [Act.put, List.setIfInBounds_toArray, List.set_cons_succ, List.set_cons_zero]
      refine wpList_nil ?_
      repeat (first | (with_reducible refine stopR (id := 17) ?_) | go_values | go_skip | go_guarded | go_step | go_upon | go_back)
      refine Stop.mk (wp_region_lit ?_)
      refine load57 (cs := (rreadOf s).arr nilv) (Blk.all H4.out.blk rfl) ((rreadOf s).arr_size HRW.out _) rfl rfl ?_
      try simp only [Act.put, List.setIfInBounds_toArray, List.set_cons_succ, List.set_cons_zero]
      refine takeL (.int .u32 (seqOf s)) rfl (by go_simp) ?_
      try simp only [Act.put, List.setIfInBounds_toArray, List.set_cons_succ, List.set_cons_zero]
      refine takeL (.agg (gotA (rreadOf s) nilv (seqOf s) 0)) rfl (exec_build _ _ _ _ 59 _ rfl #[(0, .agg ((rreadOf s).arr nilv)), (1, .int .u32 (seqOf s))] (by simp only [List.map_toArray, List.map_cons, List.map_nil]; rfl) _ (build59b HRW.out _ _ _)) ?_
      try simp only [Act.put, List.setIfInBounds_toArray, List.set_cons_succ, List.set_cons_zero]
      refine store_all (cs := gotA (rreadOf s) nilv (seqOf s) 0) H4.out.res (by rw [gotA_size HRW.out]; rfl) (by rw [gotA_size HRW.out]; exact info59) (gotA_one _ HB4.out _ _) rfl rfl rfl ?_
      intro wZ hZ hOZ hlZ
      try simp only [Act.put, List.setIfInBounds_toArray, List.set_cons_succ, List.set_cons_zero]
      have HF := Lib.hid (H4.out.bel.trans (hOZ.below H4.out.bel.size (fun k hk => by have := H4.out.g0; have := H4.out.gr; omega)))
      have HRQ : Hid (rreadOf s = readOf s) := Lib.hid (rread_same fun k2 => Classical.byContradiction fun h7 => by
        have g := (is_good hnb).1
        have := (good2 g k2).1.2
        have e : (readOf s).bytes = (s.drop 8).take (min 16 (s.getD 7 0).toNat) ++ zeros ((s.getD 7 0).toNat - 16) := by
          simp only [readOf]
          rw [if_pos k2]
        rw [e, List.length_append, List.length_take, List.length_drop, HS.out.length, zeros_length] at this
        omega)
      refine wpList_nil ?_
      go_wp2_with fail
      refine bodyPost_ret (v := .agg (gotA (rreadOf s) nilv (seqOf s) 0)) (results_cell_at rfl _ _ r 0 _ _ rfl Try.underlying59 rfl (by rw [gotA_size HRW.out]; exact info59) (Blk.all hZ rfl)) rfl ⟨nilv, by rw [(dec_yes hnb).1, (dec_yes hnb).2.1, (dec_yes hnb).2.2, HRQ.out], ?_, HF.out, Fresh.nil _⟩
      rw [(dec_yes hnb).1, ← HRQ.out]
      exact HB4.out.only hOZ HFRR.out
    · have hnb : isBlock s = false := by rw [← HIS.out, hg, ← HSS.out]; simpa using he
      simp only [he, decide_false] at HNQ
      refine takeL (.bool true) rfl (by have hq := HNQ.out; go_simp) ?_
      try simp only [Act.put, List.setIfInBounds_toArray, List.set_cons_succ, List.set_cons_zero]
      refine takeL (.bool true) rfl (by go_simp) ?_
      try simp only [Act.put, List.setIfInBounds_toArray, List.set_cons_succ, List.set_cons_zero]
      refine wpList_nil ?_
      repeat (first | (with_reducible refine stopR (id := 16) ?_) | go_values | go_skip | go_guarded | go_step | go_upon | go_back)
      refine Stop.mk (wp_region_lit ?_)
      refine takeL (.agg (gotA Bk.none nilv 0 11)) rfl (exec_build _ _ _ _ 59 _ rfl #[(2, .int .i64 11)] (by simp only [List.map_toArray, List.map_cons, List.map_nil]; rfl) _ (build59e _)) ?_
      try simp only [Act.put, List.setIfInBounds_toArray, List.set_cons_succ, List.set_cons_zero]
      refine store_all (cs := gotA Bk.none nilv 0 11) H4.out.res (by rfl) (by exact info59) (gotA_one _ (BytesAt.nil w _ _) _ _) rfl rfl rfl ?_
      intro wZ hZ hOZ hlZ
      try simp only [Act.put, List.setIfInBounds_toArray, List.set_cons_succ, List.set_cons_zero]
      have HF := Lib.hid (H4.out.bel.trans (hOZ.below H4.out.bel.size (fun k hk => by have := H4.out.g0; have := H4.out.gr; omega)))
      refine wpList_nil ?_
      go_wp2_with fail
      refine bodyPost_ret (v := .agg (gotA Bk.none nilv 0 11)) (results_cell_at rfl _ _ r 0 _ _ rfl Try.underlying59 rfl (by exact info59) (Blk.all hZ rfl)) rfl ⟨nilv, by rw [(dec_no hnb).1, (dec_no hnb).2.1, (dec_no hnb).2.2], by rw [(dec_no hnb).1]; exact BytesAt.nil _ _ _, HF.out, Fresh.nil _⟩
theorem slice2 (w : World) (g k : Nat) (hk : k < 8) : (Instr.sliceAt 50 (.pointer (some ⟨g, 0, none⟩)) (some (.int .i64 (6 + 2 * (k : Int)))) (some (.int .i64 (8 + 2 * (k : Int)))) none).run Try.prog w = .ok (.slice (some ⟨g, 6 + 2 * k, none⟩) 2 (64 - (6 + 2 * k))) w := by
  obtain ⟨i, hi, hs⟩ := size_of info5s
  rw [run_sliceAt_array_lh w 50 ⟨g, 0, none⟩ arr50.1 .i64 .i64 (6 + 2 * (k : Int)) (8 + 2 * (k : Int)) (by omega) (by omega) (by rw [arr50.2.1]; omega), arr50.2.2, arr50.2.1]
  simp only [sizeOf, typeInfo, Sem.run_bind, run_program, hi, Result.andThen_ok, Sem.run_pure, hs, slicedAt]
  rw [if_neg (by omega), show (8 + 2 * (k : Int)).toNat - (6 + 2 * (k : Int)).toNat = 2 by omega, show (6 + 2 * (k : Int)).toNat = 6 + 2 * k by omega]
  unfold Addr.add
  split <;> simp_all
theorem exec_slice2 (w : World) (ev : Operand → Value) (o : Oper) (x y z : Operand) (ho : o.op = .slice 50 x (some z) (some y) none) (g k : Nat) (hx : ev x = .pointer (some ⟨g, 0, none⟩)) (hy : ev y = .int .i64 (8 + 2 * (k : Int))) (hz : ev z = .int .i64 (6 + 2 * (k : Int))) (hk : k < 8) :
    (execOp ev o).run Try.prog w = .ok (.value (.slice (some ⟨g, 6 + 2 * k, none⟩) 2 (64 - (6 + 2 * k)))) w := by
  unfold execOp
  simp only [ho, hx, hy, hz, Option.map_some, Option.map_none, Sem.run_bind, slice2 w g k hk, Result.andThen_ok, Sem.run_pure]
set_option maxHeartbeats 2000000 in
set_option maxRecDepth 100000 in
theorem rdec_map (s : List Int) (hs : Sc s) (hk : kindOf s = 3) (w : World) : Calls Try.prog 24 #[.agg (u8s s).toArray] w fun e w' => ∃ sv, e = .returned (.agg (gotA (decB s) sv (decN s) (decE s))) ∧ BytesAt w' sv (decB s).bytes ∧ Below w.heap.size w w' ∧ Fresh w.heap.size sv := by
  have HS := Lib.hid hs
  have HSL : Hid ((u8s s).toArray.size = 64) := Lib.hid (by rw [u8s_size, hs.length])
  have HRW := Lib.hid (rread_wf hs)
  have HSR := Lib.hid (seqOf_range hs)
  have HIS := Lib.hid (rread_is hs)
  obtain ⟨hi1, hi2⟩ := sc_byte hs 1
  obtain ⟨id, hid⟩ : ∃ i, s.getD 1 0 = i := ⟨_, rfl⟩
  rw [hid] at hi1 hi2
  have HID := Lib.hid hid
  have HK := Lib.hid hk
  have hk0 := sc_byte hs 0
  clear hk0
  have hsl4 : ((s.drop 2).take 4).length = 4 := by rw [List.length_take, List.length_drop, hs.length]; omega
  go_enter Try.func24, Try.ntmps24
  repeat (first | (with_reducible refine stopR (id := 0) ?_) | go_values | go_skip | go_guarded | go_step | go_upon | go_back)
  refine Stop.mk (wp_region_lit ?_)
  refine box_g rfl rfl ?_
  intro wA hA hB hl
  try simp only [Act.put, List.setIfInBounds_toArray, List.set_cons_succ, List.set_cons_zero]
  refine alloc_g zero59b rfl ?_
  intro wB hR hB2 hl2
  try simp only [Act.put, List.setIfInBounds_toArray, List.set_cons_succ, List.set_cons_zero]
  have hA2 := hA.below hB2 hl
  have hBB := hB.trans (hB2.mono hB.size)
  refine wpList_nil ?_
  repeat (first | (with_reducible refine stopR (id := 1) ?_) | go_values | go_skip | go_guarded | go_step | go_upon | go_back)
  refine Stop.mk (wp_region_lit ?_)
  have c0 : wB.cell? ⟨w.heap.size, 0, none⟩ = some (.int .u8 (kindOf s)) := hA2.cell (sc_cell HS.out (by decide))
  rw [HK.out] at c0
  have c1 : wB.cell? ⟨w.heap.size, 1, none⟩ = some (.int .u8 id) := by rw [← HID.out]; exact hA2.cell (sc_cell HS.out (by decide))
  refine takeL (.pointer (some ⟨w.heap.size, 0, none⟩)) rfl (by go_simp) ?_
  try simp only [Act.put, List.setIfInBounds_toArray, List.set_cons_succ, List.set_cons_zero]
  refine takeL (.int .u8 3) rfl (by go_simp) ?_
  try simp only [Act.put, List.setIfInBounds_toArray, List.set_cons_succ, List.set_cons_zero]
  refine takeL (.int .i64 3) rfl (by go_simp; rfl) ?_
  try simp only [Act.put, List.setIfInBounds_toArray, List.set_cons_succ, List.set_cons_zero]
  refine takeL (.pointer (some ⟨w.heap.size, 1, none⟩)) rfl (by go_simp) ?_
  try simp only [Act.put, List.setIfInBounds_toArray, List.set_cons_succ, List.set_cons_zero]
  refine takeL (.int .u8 id) rfl (by go_simp) ?_
  try simp only [Act.put, List.setIfInBounds_toArray, List.set_cons_succ, List.set_cons_zero]
  refine takeL (.int .i64 id) rfl (by go_simp; exact wrap64 hi1 (by omega)) ?_
  try simp only [Act.put, List.setIfInBounds_toArray, List.set_cons_succ, List.set_cons_zero]
  refine takeL (.agg (Bk.arr ⟨3, id, zeros 32, 0, [], 0, zeros 8⟩ nilv)) rfl (exec_build _ _ _ _ 57 #[(0, .tmp 10), (1, .tmp 13)] rfl #[(0, .int .i64 3), (1, .int .i64 id)] (by simp only [List.map_toArray, List.map_cons, List.map_nil]; rfl) _ (build57k 3 id _)) ?_
  try simp only [Act.put, List.setIfInBounds_toArray, List.set_cons_succ, List.set_cons_zero]
  refine alloc_g zero57b rfl ?_
  intro wC hC hBC hlC
  try simp only [Act.put, List.setIfInBounds_toArray, List.set_cons_succ, List.set_cons_zero]
  refine store_all hC (by rfl) (by exact info57) (cells_one _ _ _ _) rfl rfl rfl ?_
  intro wD hD hOD hlD
  try simp only [Act.put, List.setIfInBounds_toArray, List.set_cons_succ, List.set_cons_zero]
  have hBD := hBC.trans (hOD.below hBC.size (fun k hk => Nat.le_of_eq hk.symm))
  have H1 : Hid (RU w wD w.heap.size wA.heap.size wB.heap.size s ⟨3, id, zeros 32, 0, [], 0, zeros 8⟩ nilv) := Lib.hid
    ⟨hA2.below hBD hA2.lt, hR.below hBD hR.lt, hD, hBB.trans (hBD.mono hBB.size), Nat.le_refl _, hl, hl2⟩
  clear c0 c1 hA hB hl hR hB2 hl2 hA2 hBB hC hBC hlC hD hOD hlD hBD
  generalize hgg : w.heap.size = g at *
  generalize wA.heap.size = r at *
  generalize wB.heap.size = t at *
  have HGG := Lib.hid hgg
  clear hgg wA wB wC
  refine wpList_nil ?_
  repeat (first | (with_reducible refine stopR (id := 2) ?_) | go_values | go_skip | go_guarded | go_step | go_upon | go_back)
  refine Stop.mk (wp_region_lit ?_)
  refine takeL (.slice (some ⟨g, 2, none⟩) 4 62) rfl (by go_simp) ?_
  try simp only [Act.put, List.setIfInBounds_toArray, List.set_cons_succ, List.set_cons_zero]
  refine wpList_op rfl fun K hK => ?_
  go_simp
  refine (rnum4_any wD g 2 62 ((s.drop 2).take 4) hsl4 (sc_seg HS.out 2 4) (fun i x hx => H1.out.seg 2 4 i x hx)).mono ?_
  rintro e w2 ⟨rfl, rfl⟩
  rw [show num ((s.drop 2).take 4) = seqOf s from rfl]
  refine hK _ _ ?_
  clear hK K hsl4
  try simp only [Act.put, List.setIfInBounds_toArray, List.set_cons_succ, List.set_cons_zero]
  refine takeL (.int .u32 (seqOf s)) rfl (by go_simp) ?_
  try simp only [Act.put, List.setIfInBounds_toArray, List.set_cons_succ, List.set_cons_zero]
  have ck : wD.cell? ⟨t, 0, none⟩ = some (.int .i64 3) := H1.out.blk.cell rfl
  refine wpList_nil ?_
  go_wp2_with fail
  go_loopg [5] 8 (fun q i wr => ∃ k : Nat, 8 - k ≤ q ∧ k ≤ 8 ∧ i = .int .i64 k ∧ RU w wr g r t s ⟨3, id, zeros 32, 0, [], 0, (List.range k).map (headOf s) ++ zeros (8 - k)⟩ nilv)
  case atStart => exact ⟨0, by omega, by omega, rfl, H1.out⟩
  case round =>
    obtain ⟨k, hg, hk, rfl, hrt⟩ := hrel
    have HR := Lib.hid hrt
    clear hrt H1 ck
    have hk0 : (0 : Int) ≤ (k : Int) := by omega
    by_cases hlt : k < 8
    · have hk8 : (k : Int) < 8 := by omega
      have hcell := HR.out.cellH rfl k
      rw [show (i64s ((List.range k).map (headOf s) ++ zeros (8 - k)))[k]? = some (.int .i64 0) from by
        rw [List.getElem?_map, List.getElem?_append_right (by simp), zeros, List.getElem?_replicate, if_pos (by rw [List.length_map, List.length_range]; omega)]
        rfl] at hcell
      have hfro := HR.out.blk.frozen (37 + k)
      have HCF := Lib.hid (And.intro hcell hfro)
      clear hcell hfro
      have hp2 := num_range _ (sc_seg HS.out (6 + 2 * k) 2)
      have hp3 : ((s.drop (6 + 2 * k)).take 2).length = 2 := by
        rw [List.length_take, List.length_drop, HS.out.length]
        omega
      rw [hp3] at hp2
      obtain ⟨hp4, hp5⟩ := hp2
      have HG2 := Lib.hid (rnum2_any wr g (6 + 2 * k) (64 - (6 + 2 * k)) ((s.drop (6 + 2 * k)).take 2) hp3 (sc_seg HS.out (6 + 2 * k) 2) (fun i x hx => HR.out.seg (6 + 2 * k) 2 i x hx))
      generalize hpp : num ((s.drop (6 + 2 * k)).take 2) = p at *
      have HPP := Lib.hid hpp
      have hp6 : p < 65536 := hp5
      clear hpp hp3 hp5
      repeat (first | (with_reducible refine stopR (id := 13) ?_) | go_values | go_skip | go_guarded | go_step | go_upon | go_back)
      refine Stop.mk (wp_region_lit ?_)
      refine takeL (.int .i64 (k : Int)) rfl (by go_simp) ?_
      try simp only [Act.put, List.setIfInBounds_toArray, List.set_cons_succ, List.set_cons_zero]
      refine takeL (.int .i64 (k : Int)) rfl (by go_simp) ?_
      try simp only [Act.put, List.setIfInBounds_toArray, List.set_cons_succ, List.set_cons_zero]
      refine takeL (.int .i64 (2 * (k : Int))) rfl (by go_simp; exact wrap64 (by omega) (by omega)) ?_
      try simp only [Act.put, List.setIfInBounds_toArray, List.set_cons_succ, List.set_cons_zero]
      refine takeL (.int .i64 (6 + 2 * (k : Int))) rfl (by go_simp; exact wrap64 (by omega) (by omega)) ?_
      try simp only [Act.put, List.setIfInBounds_toArray, List.set_cons_succ, List.set_cons_zero]
      refine takeL (.int .i64 (k : Int)) rfl (by go_simp) ?_
      try simp only [Act.put, List.setIfInBounds_toArray, List.set_cons_succ, List.set_cons_zero]
      refine takeL (.int .i64 (2 * (k : Int))) rfl (by go_simp; exact wrap64 (by omega) (by omega)) ?_
      try simp only [Act.put, List.setIfInBounds_toArray, List.set_cons_succ, List.set_cons_zero]
      refine takeL (.int .i64 (8 + 2 * (k : Int))) rfl (by go_simp; exact wrap64 (by omega) (by omega)) ?_
      try simp only [Act.put, List.setIfInBounds_toArray, List.set_cons_succ, List.set_cons_zero]
      refine takeL (.slice (some ⟨g, 6 + 2 * k, none⟩) 2 (64 - (6 + 2 * k))) rfl (exec_slice2 _ _ _ _ _ _ rfl g k rfl rfl rfl hlt) ?_
      try simp only [Act.put, List.setIfInBounds_toArray, List.set_cons_succ, List.set_cons_zero]
      refine wpList_op rfl fun K hK => ?_
      go_simp
      refine HG2.out.mono ?_
      rintro e w7 ⟨rfl, rfl⟩
      refine hK _ _ ?_
      clear hK K
      try simp only [Act.put, List.setIfInBounds_toArray, List.set_cons_succ, List.set_cons_zero]
      refine takeL (.int .i64 p) rfl (by go_simp; exact wrap64 (by omega) (by omega)) ?_
      try simp only [Act.put, List.setIfInBounds_toArray, List.set_cons_succ, List.set_cons_zero]
      refine takeL (.pointer (some ⟨t, 37, none⟩)) rfl (by go_simp) ?_
      try simp only [Act.put, List.setIfInBounds_toArray, List.set_cons_succ, List.set_cons_zero]
      refine takeL (.pointer (some ⟨t, 37 + k, none⟩)) rfl (by go_simp) ?_
      try simp only [Act.put, List.setIfInBounds_toArray, List.set_cons_succ, List.set_cons_zero]
      refine skipL (wr.setCell ⟨t, 37 + k, none⟩ (.int .i64 p)) rfl (by have hq := HCF.out.1; have hf := HCF.out.2; go_simp) ?_
      try simp only [Act.put, List.setIfInBounds_toArray, List.set_cons_succ, List.set_cons_zero]
      refine wpList_nil ?_
      go_wp2_with fail
      go_roundg (8 - (k + 1))
      case measure => omega
      case rel =>
        refine ⟨k + 1, by omega, by omega, by go_num, ?_⟩
        refine HR.out.set (37 + k) (.int .i64 p) ?_
        rw [cells_setH _ rfl]
        congr 1
        simp only [Bk.mk.injEq, true_and]
        rw [List.set_append_right _ _ (by simp), List.range_succ, show 8 - k = (8 - (k + 1)) + 1 by omega, show zeros ((8 - (k + 1)) + 1) = 0 :: zeros (8 - (k + 1)) from rfl]
        simp [headOf, HPP.out]
    · have H9 : Hid (RU w wr g r t s ⟨3, id, zeros 32, 0, [], 0, (List.range 8).map (headOf s)⟩ nilv) := Lib.hid (by
        obtain rfl : k = 8 := by omega
        have := HR.out
        simpa [zeros] using this)
      have hk8 : k = 8 := by omega
      clear HR
      subst hk8
      have HBYT := Lib.hid (show BytesAt _ nilv (rreadOf s).bytes from by
        rw [show (rreadOf s).bytes = [] from by simp only [rreadOf]; rw [if_neg (by rw [HK.out]; decide)]]
        exact BytesAt.nil wr _ _)
      have HFRR : Hid (∀ b o n c, nilv = .slice (some ⟨b, o, none⟩) n c → b ≠ r) := Lib.hid fun b o n c h => by cases h
      have HBQ := H9.out
      rw [(show (⟨3, id, zeros 32, 0, [], 0, (List.range 8).map (headOf s)⟩ : Bk) = rreadOf s from by rw [← HID.out]; unfold rreadOf readOf; simp [HK.out])] at HBQ
      have H2 := Lib.hid HBQ
      clear HBQ
      have HEN := Lib.hid fun w h => rencode_any (rreadOf s) nilv (seqOf s) w h HRW.out HSR.out
      repeat (first | (with_reducible refine stopR (id := 14) ?_) | go_values | go_skip | go_guarded | go_step | go_upon | go_back)
      refine Stop.mk (wp_region_lit ?_)
      refine load57 (cs := (rreadOf s).arr nilv) (Blk.all H2.out.blk rfl) ((rreadOf s).arr_size HRW.out _) rfl rfl ?_
      try simp only [Act.put, List.setIfInBounds_toArray, List.set_cons_succ, List.set_cons_zero]
      refine takeL (.int .u32 (seqOf s)) rfl (by go_simp) ?_
      try simp only [Act.put, List.setIfInBounds_toArray, List.set_cons_succ, List.set_cons_zero]
      refine wpList_op rfl fun K hK => ?_
      go_simp
      refine (HEN.out _ HBYT.out).mono ?_
      rintro e w3 ⟨rfl, hb⟩
      have H3 := Lib.hid (H2.out.below hb)
      have HB3 := Lib.hid (HBYT.out.below hb)
      refine hK _ _ ?_
      clear hK K hb H2 HBYT HEN
      try simp only [Act.put, List.setIfInBounds_toArray, List.set_cons_succ, List.set_cons_zero]
      refine takeL (.tuple #[.agg (u8s ((rreadOf s).sec (seqOf s))).toArray, .int .i64 (rreadOf s).err]) rfl (by go_simp) ?_
      try simp only [Act.put, List.setIfInBounds_toArray, List.set_cons_succ, List.set_cons_zero]
      refine takeL (.agg (u8s ((rreadOf s).sec (seqOf s))).toArray) rfl (by go_simp) ?_
      try simp only [Act.put, List.setIfInBounds_toArray, List.set_cons_succ, List.set_cons_zero]
      refine takeL (.int .i64 (rreadOf s).err) rfl (by go_simp) ?_
      try simp only [Act.put, List.setIfInBounds_toArray, List.set_cons_succ, List.set_cons_zero]
      have HSE := Lib.hid (sec_length HRW.out (seqOf s))
      refine alloc_g zero50 rfl ?_
      intro wC hC hBC hlC
      try simp only [Act.put, List.setIfInBounds_toArray, List.set_cons_succ, List.set_cons_zero]
      refine store_all (cs := (u8s ((rreadOf s).sec (seqOf s))).toArray) hC (by rw [u8s_size, HSE.out]; simp [zeros]) (by rw [u8s_size, HSE.out]; exact info50) (u8s_one _) rfl rfl rfl ?_
      intro wE hD hOD hlD
      try simp only [Act.put, List.setIfInBounds_toArray, List.set_cons_succ, List.set_cons_zero]
      have hBD := hBC.trans (hOD.below hBC.size (fun k hk => Nat.le_of_eq hk.symm))
      have H4 := Lib.hid (H3.out.below hBD)
      have HB4 := Lib.hid (HB3.out.below hBD)
      have HD4 := Lib.hid hD
      clear hC hBC hlC hD hOD hlD hBD H3 HB3
      generalize w3.heap.size = x at *
      clear w3 wC
      refine takeL (.int .i64 (rreadOf s).err) rfl (by go_simp) ?_
      try simp only [Act.put, List.setIfInBounds_toArray, List.set_cons_succ, List.set_cons_zero]
      refine wpList_nil ?_
      repeat (first | (with_reducible refine stopR (id := 15) ?_) | go_values | go_skip | go_guarded | go_step | go_upon | go_back)
      refine Stop.mk (wp_region_lit ?_)
      cases hg : (rreadOf s).good
      · have HSX : Hid ((rreadOf s).err = 11) := Lib.hid (err_bad hg)
        rw [HSX.out]
        have hnb : isBlock s = false := by rw [← HIS.out, hg]; rfl
        refine takeL (.int .i64 11) rfl (by go_simp) ?_
        try simp only [Act.put, List.setIfInBounds_toArray, List.set_cons_succ, List.set_cons_zero]
        refine takeL (.bool true) rfl (by go_simp) ?_
        try simp only [Act.put, List.setIfInBounds_toArray, List.set_cons_succ, List.set_cons_zero]
        refine takeL (.bool true) rfl (by go_simp) ?_
        try simp only [Act.put, List.setIfInBounds_toArray, List.set_cons_succ, List.set_cons_zero]
        refine passL rfl ?_
        try simp only [Act.put, List.setIfInBounds_toArray, List.set_cons_succ, List.set_cons_zero]
        refine passL rfl ?_
        try simp only [Act.put, List.setIfInBounds_toArray, List.set_cons_succ, List.set_cons_zero]
        refine passL rfl ?_
        try simp only [Act.put, List.setIfInBounds_toArray, List.set_cons_succ, List.set_cons_zero]
        refine takeL (.bool true) rfl (by go_simp) ?_
        try simp only [Act.put, List.setIfInBounds_toArray, List.set_cons_succ, List.set_cons_zero]
        refine wpList_nil ?_
        repeat (first | (with_reducible refine stopR (id := 16) ?_) | go_values | go_skip | go_guarded | go_step | go_upon | go_back)
        refine Stop.mk (wp_region_lit ?_)
        refine takeL (.agg (gotA Bk.none nilv 0 11)) rfl (exec_build _ _ _ _ 59 _ rfl #[(2, .int .i64 11)] (by simp only [List.map_toArray, List.map_cons, List.map_nil]; rfl) _ (build59e _)) ?_
        try simp only [Act.put, List.setIfInBounds_toArray, List.set_cons_succ, List.set_cons_zero]
        refine store_all (cs := gotA Bk.none nilv 0 11) H4.out.res (by rfl) (by exact info59) (gotA_one _ (BytesAt.nil w _ _) _ _) rfl rfl rfl ?_
        intro wZ hZ hOZ hlZ
        try simp only [Act.put, List.setIfInBounds_toArray, List.set_cons_succ, List.set_cons_zero]
        have HF := Lib.hid (H4.out.bel.trans (hOZ.below H4.out.bel.size (fun k hk => by have := H4.out.g0; have := H4.out.gr; omega)))
        refine wpList_nil ?_
        go_wp2_with fail
        refine bodyPost_ret (v := .agg (gotA Bk.none nilv 0 11)) (results_cell_at rfl _ _ r 0 _ _ rfl Try.underlying59 rfl (by exact info59) (Blk.all hZ rfl)) rfl ⟨nilv, by rw [(dec_no hnb).1, (dec_no hnb).2.1, (dec_no hnb).2.2], by rw [(dec_no hnb).1]; exact BytesAt.nil _ _ _, HF.out, Fresh.nil _⟩
      · have HSX : Hid ((rreadOf s).err = 0) := Lib.hid (err_good hg)
        have HSS : Hid ((rreadOf s).sec (seqOf s) = (rreadOf s).enc (seqOf s)) := Lib.hid (sec_good hg _)
        have HNQ := Lib.hid fun w => neq50 w ((rreadOf s).sec (seqOf s)) s HSE.out HS.out.length
        rw [HSX.out]
        refine takeL (.int .i64 0) rfl (by go_simp) ?_
        try simp only [Act.put, List.setIfInBounds_toArray, List.set_cons_succ, List.set_cons_zero]
        refine takeL (.bool false) rfl (by go_simp) ?_
        try simp only [Act.put, List.setIfInBounds_toArray, List.set_cons_succ, List.set_cons_zero]
        refine takeL (.bool false) rfl (by go_simp) ?_
        try simp only [Act.put, List.setIfInBounds_toArray, List.set_cons_succ, List.set_cons_zero]
        refine load50 (cs := (u8s ((rreadOf s).sec (seqOf s))).toArray) (Blk.all HD4.out rfl) (by rw [u8s_size, HSE.out]) rfl rfl ?_
        try simp only [Act.put, List.setIfInBounds_toArray, List.set_cons_succ, List.set_cons_zero]
        refine load50 (cs := (u8s s).toArray) (Blk.all H4.out.sec rfl) HSL.out rfl rfl ?_
        try simp only [Act.put, List.setIfInBounds_toArray, List.set_cons_succ, List.set_cons_zero]
        by_cases he : (rreadOf s).sec (seqOf s) = s
        · have hnb : isBlock s = true := by rw [← HIS.out, hg, ← HSS.out, he]; simp
          simp only [he, decide_true] at HNQ
          refine takeL (.bool false) rfl (by have hq := HNQ.out; go_simp) ?_
          try simp only [Act.put, List.setIfInBounds_toArray, List.set_cons_succ, List.set_cons_zero]
          refine takeL (.bool false) rfl (by go_simp) ?_
          try simp only [Act.put, List.setIfInBounds_toArray, List.set_cons_succ, List.set_cons_zero]
          refine wpList_nil ?_
          repeat (first | (with_reducible refine stopR (id := 17) ?_) | go_values | go_skip | go_guarded | go_step | go_upon | go_back)
          refine Stop.mk (wp_region_lit ?_)
          refine load57 (cs := (rreadOf s).arr nilv) (Blk.all H4.out.blk rfl) ((rreadOf s).arr_size HRW.out _) rfl rfl ?_
          try simp only [Act.put, List.setIfInBounds_toArray, List.set_cons_succ, List.set_cons_zero]
          refine takeL (.int .u32 (seqOf s)) rfl (by go_simp) ?_
          try simp only [Act.put, List.setIfInBounds_toArray, List.set_cons_succ, List.set_cons_zero]
          refine takeL (.agg (gotA (rreadOf s) nilv (seqOf s) 0)) rfl (exec_build _ _ _ _ 59 _ rfl #[(0, .agg ((rreadOf s).arr nilv)), (1, .int .u32 (seqOf s))] (by simp only [List.map_toArray, List.map_cons, List.map_nil]; rfl) _ (build59b HRW.out _ _ _)) ?_
          try simp only [Act.put, List.setIfInBounds_toArray, List.set_cons_succ, List.set_cons_zero]
          refine store_all (cs := gotA (rreadOf s) nilv (seqOf s) 0) H4.out.res (by rw [gotA_size HRW.out]; rfl) (by rw [gotA_size HRW.out]; exact info59) (gotA_one _ HB4.out _ _) rfl rfl rfl ?_
          intro wZ hZ hOZ hlZ
          try simp only [Act.put, List.setIfInBounds_toArray, List.set_cons_succ, List.set_cons_zero]
          have HF := Lib.hid (H4.out.bel.trans (hOZ.below H4.out.bel.size (fun k hk => by have := H4.out.g0; have := H4.out.gr; omega)))
          have HRQ : Hid (rreadOf s = readOf s) := Lib.hid (rread_same fun k2 => Classical.byContradiction fun h7 => by
            have g := (is_good hnb).1
            have := (good2 g k2).1.2
            have e : (readOf s).bytes = (s.drop 8).take (min 16 (s.getD 7 0).toNat) ++ zeros ((s.getD 7 0).toNat - 16) := by
              simp only [readOf]
              rw [if_pos k2]
            rw [e, List.length_append, List.length_take, List.length_drop, HS.out.length, zeros_length] at this
            omega)
          refine wpList_nil ?_
          go_wp2_with fail
          refine bodyPost_ret (v := .agg (gotA (rreadOf s) nilv (seqOf s) 0)) (results_cell_at rfl _ _ r 0 _ _ rfl Try.underlying59 rfl (by rw [gotA_size HRW.out]; exact info59) (Blk.all hZ rfl)) rfl ⟨nilv, by rw [(dec_yes hnb).1, (dec_yes hnb).2.1, (dec_yes hnb).2.2, HRQ.out], ?_, HF.out, Fresh.nil _⟩
          rw [(dec_yes hnb).1, ← HRQ.out]
          exact HB4.out.only hOZ HFRR.out
        · have hnb : isBlock s = false := by rw [← HIS.out, hg, ← HSS.out]; simpa using he
          simp only [he, decide_false] at HNQ
          refine takeL (.bool true) rfl (by have hq := HNQ.out; go_simp) ?_
          try simp only [Act.put, List.setIfInBounds_toArray, List.set_cons_succ, List.set_cons_zero]
          refine takeL (.bool true) rfl (by go_simp) ?_
          try simp only [Act.put, List.setIfInBounds_toArray, List.set_cons_succ, List.set_cons_zero]
          refine wpList_nil ?_
          repeat (first | (with_reducible refine stopR (id := 16) ?_) | go_values | go_skip | go_guarded | go_step | go_upon | go_back)
          refine Stop.mk (wp_region_lit ?_)
          refine takeL (.agg (gotA Bk.none nilv 0 11)) rfl (exec_build _ _ _ _ 59 _ rfl #[(2, .int .i64 11)] (by simp only [List.map_toArray, List.map_cons, List.map_nil]; rfl) _ (build59e _)) ?_
          try simp only [Act.put, List.setIfInBounds_toArray, List.set_cons_succ, List.set_cons_zero]
          refine store_all (cs := gotA Bk.none nilv 0 11) H4.out.res (by rfl) (by exact info59) (gotA_one _ (BytesAt.nil w _ _) _ _) rfl rfl rfl ?_
          intro wZ hZ hOZ hlZ
          try simp only [Act.put, List.setIfInBounds_toArray, List.set_cons_succ, List.set_cons_zero]
          have HF := Lib.hid (H4.out.bel.trans (hOZ.below H4.out.bel.size (fun k hk => by have := H4.out.g0; have := H4.out.gr; omega)))
          refine wpList_nil ?_
          go_wp2_with fail
          refine bodyPost_ret (v := .agg (gotA Bk.none nilv 0 11)) (results_cell_at rfl _ _ r 0 _ _ rfl Try.underlying59 rfl (by exact info59) (Blk.all hZ rfl)) rfl ⟨nilv, by rw [(dec_no hnb).1, (dec_no hnb).2.1, (dec_no hnb).2.2], by rw [(dec_no hnb).1]; exact BytesAt.nil _ _ _, HF.out, Fresh.nil _⟩
theorem wp_skipTo {o : Oper} {a : Act} {w : World} {K : Act → World → Prop} {Q : Exit → Act → World → Prop} (dst : Option Tmp) (hd : o.dst = dst) (w' : World) (hr : (execOp a.eval o).run Try.prog w = .ok .skip w') (h : K (a.put dst undef) w') : o.wp Try.prog a w K Q := by
  subst hd
  unfold Oper.wp
  rw [hr]
  exact h
set_option maxHeartbeats 2000000 in
set_option maxRecDepth 100000 in
theorem rdec_dlt (s : List Int) (hs : Sc s) (hk : kindOf s = 2) (w : World) : Calls Try.prog 24 #[.agg (u8s s).toArray] w fun e w' => ∃ sv, e = .returned (.agg (gotA (decB s) sv (decN s) (decE s))) ∧ BytesAt w' sv (decB s).bytes ∧ Below w.heap.size w w' ∧ Fresh w.heap.size sv := by
  have HS := Lib.hid hs
  have HSL : Hid ((u8s s).toArray.size = 64) := Lib.hid (by rw [u8s_size, hs.length])
  have HRW := Lib.hid (rread_wf hs)
  have HSR := Lib.hid (seqOf_range hs)
  have HIS := Lib.hid (rread_is hs)
  obtain ⟨hi1, hi2⟩ := sc_byte hs 1
  obtain ⟨id, hid⟩ : ∃ i, s.getD 1 0 = i := ⟨_, rfl⟩
  rw [hid] at hi1 hi2
  have HID := Lib.hid hid
  have HK := Lib.hid hk
  have hk0 := sc_byte hs 0
  clear hk0
  have hsl4 : ((s.drop 2).take 4).length = 4 := by rw [List.length_take, List.length_drop, hs.length]; omega
  go_enter Try.func24, Try.ntmps24
  repeat (first | (with_reducible refine stopR (id := 0) ?_) | go_values | go_skip | go_guarded | go_step | go_upon | go_back)
  refine Stop.mk (wp_region_lit ?_)
  refine box_g rfl rfl ?_
  intro wA hA hB hl
  try simp only [Act.put, List.setIfInBounds_toArray, List.set_cons_succ, List.set_cons_zero]
  refine alloc_g zero59b rfl ?_
  intro wB hR hB2 hl2
  try simp only [Act.put, List.setIfInBounds_toArray, List.set_cons_succ, List.set_cons_zero]
  have hA2 := hA.below hB2 hl
  have hBB := hB.trans (hB2.mono hB.size)
  refine wpList_nil ?_
  repeat (first | (with_reducible refine stopR (id := 1) ?_) | go_values | go_skip | go_guarded | go_step | go_upon | go_back)
  refine Stop.mk (wp_region_lit ?_)
  have c0 : wB.cell? ⟨w.heap.size, 0, none⟩ = some (.int .u8 (kindOf s)) := hA2.cell (sc_cell HS.out (by decide))
  rw [HK.out] at c0
  have c1 : wB.cell? ⟨w.heap.size, 1, none⟩ = some (.int .u8 id) := by rw [← HID.out]; exact hA2.cell (sc_cell HS.out (by decide))
  refine takeL (.pointer (some ⟨w.heap.size, 0, none⟩)) rfl (by go_simp) ?_
  try simp only [Act.put, List.setIfInBounds_toArray, List.set_cons_succ, List.set_cons_zero]
  refine takeL (.int .u8 2) rfl (by go_simp) ?_
  try simp only [Act.put, List.setIfInBounds_toArray, List.set_cons_succ, List.set_cons_zero]
  refine takeL (.int .i64 2) rfl (by go_simp; rfl) ?_
  try simp only [Act.put, List.setIfInBounds_toArray, List.set_cons_succ, List.set_cons_zero]
  refine takeL (.pointer (some ⟨w.heap.size, 1, none⟩)) rfl (by go_simp) ?_
  try simp only [Act.put, List.setIfInBounds_toArray, List.set_cons_succ, List.set_cons_zero]
  refine takeL (.int .u8 id) rfl (by go_simp) ?_
  try simp only [Act.put, List.setIfInBounds_toArray, List.set_cons_succ, List.set_cons_zero]
  refine takeL (.int .i64 id) rfl (by go_simp; exact wrap64 hi1 (by omega)) ?_
  try simp only [Act.put, List.setIfInBounds_toArray, List.set_cons_succ, List.set_cons_zero]
  refine takeL (.agg (Bk.arr ⟨2, id, zeros 32, 0, [], 0, zeros 8⟩ nilv)) rfl (exec_build _ _ _ _ 57 #[(0, .tmp 10), (1, .tmp 13)] rfl #[(0, .int .i64 2), (1, .int .i64 id)] (by simp only [List.map_toArray, List.map_cons, List.map_nil]; rfl) _ (build57k 2 id _)) ?_
  try simp only [Act.put, List.setIfInBounds_toArray, List.set_cons_succ, List.set_cons_zero]
  refine alloc_g zero57b rfl ?_
  intro wC hC hBC hlC
  try simp only [Act.put, List.setIfInBounds_toArray, List.set_cons_succ, List.set_cons_zero]
  refine store_all hC (by rfl) (by exact info57) (cells_one _ _ _ _) rfl rfl rfl ?_
  intro wD hD hOD hlD
  try simp only [Act.put, List.setIfInBounds_toArray, List.set_cons_succ, List.set_cons_zero]
  have hBD := hBC.trans (hOD.below hBC.size (fun k hk => Nat.le_of_eq hk.symm))
  have H1 : Hid (RU w wD w.heap.size wA.heap.size wB.heap.size s ⟨2, id, zeros 32, 0, [], 0, zeros 8⟩ nilv) := Lib.hid
    ⟨hA2.below hBD hA2.lt, hR.below hBD hR.lt, hD, hBB.trans (hBD.mono hBB.size), Nat.le_refl _, hl, hl2⟩
  clear c0 c1 hA hB hl hR hB2 hl2 hA2 hBB hC hBC hlC hD hOD hlD hBD
  generalize hgg : w.heap.size = g at *
  generalize wA.heap.size = r at *
  generalize wB.heap.size = t at *
  have HGG := Lib.hid hgg
  clear hgg wA wB wC
  refine wpList_nil ?_
  repeat (first | (with_reducible refine stopR (id := 2) ?_) | go_values | go_skip | go_guarded | go_step | go_upon | go_back)
  refine Stop.mk (wp_region_lit ?_)
  refine takeL (.slice (some ⟨g, 2, none⟩) 4 62) rfl (by go_simp) ?_
  try simp only [Act.put, List.setIfInBounds_toArray, List.set_cons_succ, List.set_cons_zero]
  refine wpList_op rfl fun K hK => ?_
  go_simp
  refine (rnum4_any wD g 2 62 ((s.drop 2).take 4) hsl4 (sc_seg HS.out 2 4) (fun i x hx => H1.out.seg 2 4 i x hx)).mono ?_
  rintro e w2 ⟨rfl, rfl⟩
  rw [show num ((s.drop 2).take 4) = seqOf s from rfl]
  refine hK _ _ ?_
  clear hK K hsl4
  try simp only [Act.put, List.setIfInBounds_toArray, List.set_cons_succ, List.set_cons_zero]
  refine takeL (.int .u32 (seqOf s)) rfl (by go_simp) ?_
  try simp only [Act.put, List.setIfInBounds_toArray, List.set_cons_succ, List.set_cons_zero]
  have ck : wD.cell? ⟨t, 0, none⟩ = some (.int .i64 2) := H1.out.blk.cell rfl
  refine wpList_nil ?_
  have HCK := Lib.hid ck
  obtain ⟨ho1, ho2⟩ := sc_byte HS.out 6
  obtain ⟨hm1, hm2⟩ := sc_byte HS.out 7
  obtain ⟨o, ho⟩ : ∃ i, s.getD 6 0 = i := ⟨_, rfl⟩
  obtain ⟨n, hn⟩ : ∃ n : Nat, s.getD 7 0 = (n : Int) := ⟨(s.getD 7 0).toNat, by omega⟩
  rw [ho] at ho1 ho2
  rw [hn] at hm2
  have HO := Lib.hid ho
  have HNN := Lib.hid hn
  clear ho hn hm1
  have hp2 := num_range _ (sc_seg HS.out 24 2)
  have hp3 : ((s.drop 24).take 2).length = 2 := by simp [HS.out.length]
  rw [hp3] at hp2
  obtain ⟨hp4, hp5⟩ := hp2
  have HG2 := Lib.hid fun (wq : World) (hq : ∀ i x, ((s.drop 24).take 2)[i]? = some x → wq.cell? ⟨g, 24 + i, none⟩ = some (.int .u8 x)) => rnum2_any wq g 24 40 ((s.drop 24).take 2) hp3 (sc_seg HS.out 24 2) hq
  have HSG := Lib.hid (fun (i : Nat) (x : Int) (hx : ((s.drop 24).take 2)[i]? = some x) => show wD.drew.cell? ⟨g, 24 + i, none⟩ = some (.int .u8 x) from H1.out.seg 24 2 i x hx)
  generalize hpp : num ((s.drop 24).take 2) = p at *
  have HPP := Lib.hid hpp
  have hp6 : p < 65536 := hp5
  clear hpp hp3 hp5
  go_wp2_with fail
  have c6 : wD.drew.cell? ⟨g, 6, none⟩ = some (.int .u8 o) := by rw [← HO.out]; exact H1.out.sec.cell (sc_cell HS.out (by decide))
  have HC6 := Lib.hid c6
  clear c6
  refine startH (fun wq => wq.cell? ⟨g, 6, none⟩ = some (.int .u8 o)) (by kernel_rfl) ?_
  refine takeH 0 (some 27) (.pointer (some ⟨g, 6, none⟩)) rfl rfl (by kernel_rfl) (by kernel_rfl) (by kernel_rfl) (fun _ _ _ h => h) rfl (fun w hS => by go_simp) HC6.out ?_
  try simp only [Act.put, List.setIfInBounds_toArray, List.set_cons_succ, List.set_cons_zero]
  refine takeH 1 (some 28) (.int .u8 o) rfl rfl (by kernel_rfl) (by kernel_rfl) (by kernel_rfl) (fun _ _ _ h => h) rfl (fun w hS => by go_simp) HC6.out ?_
  try simp only [Act.put, List.setIfInBounds_toArray, List.set_cons_succ, List.set_cons_zero]
  refine takeH 2 (some 29) (.int .i64 o) rfl rfl (by kernel_rfl) (by kernel_rfl) (by kernel_rfl) (fun _ _ _ h => h) rfl (fun w hS => by go_simp; exact wrap64 ho1 (by omega)) HC6.out ?_
  try simp only [Act.put, List.setIfInBounds_toArray, List.set_cons_succ, List.set_cons_zero]
  refine takeH 3 (some 30) (.slice (some ⟨g, 24, none⟩) 2 40) rfl rfl (by kernel_rfl) (by kernel_rfl) (by kernel_rfl) (fun _ _ _ h => h) rfl (fun w hS => by go_simp) HC6.out ?_
  try simp only [Act.put, List.setIfInBounds_toArray, List.set_cons_succ, List.set_cons_zero]
  refine oneH 4 (by kernel_rfl) rfl rfl fun K hK => ?_
  go_simp
  refine (HG2.out _ HSG.out).mono ?_
  rintro e w6 ⟨rfl, rfl⟩
  refine hK _ _ HC6.out ?_
  clear hK K
  try simp only [Act.put, List.setIfInBounds_toArray, List.set_cons_succ, List.set_cons_zero]
  refine takeH 5 (some 32) (.int .i64 p) rfl rfl (by kernel_rfl) (by kernel_rfl) (by kernel_rfl) (fun _ _ _ h => h) rfl (fun w hS => by go_simp; exact wrap64 hp4 (by omega)) HC6.out ?_
  try simp only [Act.put, List.setIfInBounds_toArray, List.set_cons_succ, List.set_cons_zero]
  refine takeH 6 (some 33) (.pointer (some ⟨t, 34, none⟩)) rfl rfl (by kernel_rfl) (by kernel_rfl) (by kernel_rfl) (fun _ _ _ h => h) rfl (fun w hS => by go_simp) HC6.out ?_
  try simp only [Act.put, List.setIfInBounds_toArray, List.set_cons_succ, List.set_cons_zero]
  refine oneH 7 (by kernel_rfl) rfl rfl fun K hK => ?_
  refine wp_skipTo none rfl (wD.drew.setCell ⟨t, 34, none⟩ (.int .i64 o)) (by have hq := H1.out.drew.cell34 rfl; have hf := H1.out.drew.blk.frozen 34; go_simp) ?_
  have H2 := Lib.hid (H1.out.drew.set 34 (.int .i64 o) (cells_set34 _ rfl _ o))
  generalize wD.drew.setCell ⟨t, 34, none⟩ (.int .i64 o) = wE at *
  have c6 : wE.cell? ⟨g, 6, none⟩ = some (.int .u8 o) := by rw [← HO.out]; exact H2.out.sec.cell (sc_cell HS.out (by decide))
  have HC6b := Lib.hid c6
  refine hK _ _ c6 ?_
  clear hK K c6
  try simp only [Act.put, List.setIfInBounds_toArray, List.set_cons_succ, List.set_cons_zero]
  refine takeH 8 (some 34) (.pointer (some ⟨t, 36, none⟩)) rfl rfl (by kernel_rfl) (by kernel_rfl) (by kernel_rfl) (fun _ _ _ h => h) rfl (fun w hS => by go_simp) HC6b.out ?_
  try simp only [Act.put, List.setIfInBounds_toArray, List.set_cons_succ, List.set_cons_zero]
  refine oneH 9 (by kernel_rfl) rfl rfl fun K hK => ?_
  refine wp_skipTo none rfl (wE.setCell ⟨t, 36, none⟩ (.int .i64 p)) (by have hq := H2.out.cell36 rfl; have hf := H2.out.blk.frozen 36; go_simp) ?_
  have H3 := Lib.hid (H2.out.set 36 (.int .i64 p) (cells_set36 _ rfl _ p))
  generalize wE.setCell ⟨t, 36, none⟩ (.int .i64 p) = wF at *
  have c6 : wF.cell? ⟨g, 6, none⟩ = some (.int .u8 o) := by rw [← HO.out]; exact H3.out.sec.cell (sc_cell HS.out (by decide))
  refine hK _ _ c6 ?_
  clear hK K c6 HC6 H2 H1 HSG HG2 ck HCK
  try simp only [Act.put, List.setIfInBounds_toArray, List.set_cons_succ, List.set_cons_zero]
  refine wpAnyH_done (by kernel_rfl) ?_ _
  repeat (first | (with_reducible refine stopR (id := 8) ?_) | go_values | go_skip | go_guarded | go_step | go_upon | go_back)
  refine Stop.mk (wp_region_lit ?_)
  obtain ⟨m, hmm⟩ : ∃ m : Nat, m = min 16 n := ⟨_, rfl⟩
  have hm16 : m ≤ 16 := by omega
  have HMM := Lib.hid hmm
  refine wpList_run (.slice (some ⟨wF.heap.size, 0, none⟩) 0 0) (wF.alloc (.cells #[] 5)) rfl (by go_simp) ?_
  try simp only [Act.put, List.setIfInBounds_toArray, List.set_cons_succ, List.set_cons_zero]
  have hb1 := (Below.refl wF.heap.size wF).alloc (Nat.le_refl _) (.cells #[] 5)
  have hO := Own.lit wF wF.heap.size (Nat.le_refl _) [] (by simp) #[] rfl
  have H4 := Lib.hid (H3.out.below hb1)
  have c7 : (wF.alloc (.cells #[] 5)).cell? ⟨g, 7, none⟩ = some (.int .u8 (n : Int)) := by rw [← HNN.out]; exact H4.out.sec.cell (sc_cell HS.out (by decide))
  refine takeL (.pointer (some ⟨g, 7, none⟩)) rfl (by go_simp) ?_
  try simp only [Act.put, List.setIfInBounds_toArray, List.set_cons_succ, List.set_cons_zero]
  refine takeL (.int .u8 (n : Int)) rfl (by go_simp) ?_
  try simp only [Act.put, List.setIfInBounds_toArray, List.set_cons_succ, List.set_cons_zero]
  refine takeL (.int .i64 (n : Int)) rfl (by go_simp; exact wrap64 (by omega) (by omega)) ?_
  try simp only [Act.put, List.setIfInBounds_toArray, List.set_cons_succ, List.set_cons_zero]
  refine takeL (.int .i64 (m : Int)) rfl (by go_simp; split <;> omega) ?_
  try simp only [Act.put, List.setIfInBounds_toArray, List.set_cons_succ, List.set_cons_zero]
  refine takeL (.int .i64 (8 + (m : Int))) rfl (by go_simp; exact wrap64 (by omega) (by omega)) ?_
  try simp only [Act.put, List.setIfInBounds_toArray, List.set_cons_succ, List.set_cons_zero]
  refine takeL (.slice (some ⟨g, 8, none⟩) m 56) rfl (exec_slice8 _ _ _ _ _ rfl g m rfl rfl rfl hm16) ?_
  try simp only [Act.put, List.setIfInBounds_toArray, List.set_cons_succ, List.set_cons_zero]
  have hlm : ((s.drop 8).take m).length = m := by
    rw [List.length_take, List.length_drop, HS.out.length]
    omega
  have hby := BytesAt.of_part (l := (s.drop 8).take m) 8 56 H4.out.sec (fun j x hx => by
    have hj : j < m := by
      have := (List.getElem?_eq_some_iff.1 hx).1
      omega
    rwa [List.getElem?_take_of_lt hj, List.getElem?_drop] at hx)
  rw [hlm] at hby
  refine app_L hO hb1.size hby (by rw [hlm]; simp; omega) rfl rfl rfl ?_
  intro sv' w9 hO9 hB9
  try simp only [Act.put, List.setIfInBounds_toArray, List.set_cons_succ, List.set_cons_zero]
  rw [List.nil_append] at hO9
  have HO9 := Lib.hid hO9
  have hbb := hb1.trans hB9
  have H5 := Lib.hid (H3.out.below hbb)
  have HTT := Lib.hid H3.out.blk.lt
  clear hb1 hO hO9 hB9 hbb hby c7 H4 H3
  refine takeL (.pointer (some ⟨t, 35, none⟩)) rfl (by go_simp) ?_
  try simp only [Act.put, List.setIfInBounds_toArray, List.set_cons_succ, List.set_cons_zero]
  obtain ⟨sa, sc, hsf, _⟩ := HO9.out.bytes
  refine skipL (w9.setCell ⟨t, 35, none⟩ sv') rfl (by have hq := H5.out.cell35 rfl; have hf := H5.out.blk.frozen 35; rw [hsf]; go_simp) ?_
  try simp only [Act.put, List.setIfInBounds_toArray, List.set_cons_succ, List.set_cons_zero]
  have H6 := Lib.hid (H5.out.set 35 sv' (cells_set35 _ rfl _ sv' ((s.drop 8).take m)))
  have HFRG : Hid (Fresh w.heap.size sv') := Lib.hid fun b o n c h => by
    have := (HO9.out.lt b (by rw [h]; rfl)).1
    have := HTT.out
    have := H5.out.rt
    have := H5.out.gr
    have := HGG.out
    omega
  have HFRR := Lib.hid (show ∀ b o n c, sv' = .slice (some ⟨b, o, none⟩) n c → b ≠ r from fun b o n c h => by
    have := (HO9.out.lt b (by rw [h]; rfl)).1
    have := HTT.out
    have := H5.out.rt
    omega)
  have HBYT : Hid (BytesAt (w9.setCell ⟨t, 35, none⟩ sv') sv' (rreadOf s).bytes) := Lib.hid (by
    have e : (rreadOf s).bytes = (s.drop 8).take m := by
      have e7 : (s.getD 7 0).toNat = n := by rw [HNN.out]; rfl
      simp only [rreadOf]
      rw [if_pos HK.out, e7, HMM.out]
    rw [e]
    exact HO9.out.bytes.only ((Only.refl (fun k => k = t) w9).setCell (p := ⟨t, 35, none⟩) (.inl rfl) _) fun b o n c h => by
      have := (HO9.out.lt b (by rw [h]; rfl)).1
      have := HTT.out
      omega)
  have HEB : Hid ((⟨2, id, zeros 32, o, (s.drop 8).take m, p, zeros 8⟩ : Bk) = rreadOf s) := Lib.hid (by
    have e7 : (s.getD 7 0).toNat = n := by rw [HNN.out]; rfl
    rw [← HID.out, ← HO.out, ← HPP.out, HMM.out]
    unfold rreadOf readOf
    rw [e7]
    simp [HK.out])
  clear hsf H5 HO9 hmm hlm
  generalize w9.setCell ⟨t, 35, none⟩ sv' = wX at *
  refine wpList_nil ?_
  have HBQ := H6.out
  rw [(show (⟨2, id, zeros 32, o, (s.drop 8).take m, p, zeros 8⟩ : Bk) = rreadOf s from HEB.out)] at HBQ
  have H2 := Lib.hid HBQ
  clear HBQ
  have HEN := Lib.hid fun w h => rencode_any (rreadOf s) sv' (seqOf s) w h HRW.out HSR.out
  repeat (first | (with_reducible refine stopR (id := 14) ?_) | go_values | go_skip | go_guarded | go_step | go_upon | go_back)
  refine Stop.mk (wp_region_lit ?_)
  refine load57 (cs := (rreadOf s).arr sv') (Blk.all H2.out.blk rfl) ((rreadOf s).arr_size HRW.out _) rfl rfl ?_
  try simp only [Act.put, List.setIfInBounds_toArray, List.set_cons_succ, List.set_cons_zero]
  refine takeL (.int .u32 (seqOf s)) rfl (by go_simp) ?_
  try simp only [Act.put, List.setIfInBounds_toArray, List.set_cons_succ, List.set_cons_zero]
  refine wpList_op rfl fun K hK => ?_
  go_simp
  refine (HEN.out _ HBYT.out).mono ?_
  rintro e w3 ⟨rfl, hb⟩
  have H3 := Lib.hid (H2.out.below hb)
  have HB3 := Lib.hid (HBYT.out.below hb)
  refine hK _ _ ?_
  clear hK K hb H2 HBYT HEN
  try simp only [Act.put, List.setIfInBounds_toArray, List.set_cons_succ, List.set_cons_zero]
  refine takeL (.tuple #[.agg (u8s ((rreadOf s).sec (seqOf s))).toArray, .int .i64 (rreadOf s).err]) rfl (by go_simp) ?_
  try simp only [Act.put, List.setIfInBounds_toArray, List.set_cons_succ, List.set_cons_zero]
  refine takeL (.agg (u8s ((rreadOf s).sec (seqOf s))).toArray) rfl (by go_simp) ?_
  try simp only [Act.put, List.setIfInBounds_toArray, List.set_cons_succ, List.set_cons_zero]
  refine takeL (.int .i64 (rreadOf s).err) rfl (by go_simp) ?_
  try simp only [Act.put, List.setIfInBounds_toArray, List.set_cons_succ, List.set_cons_zero]
  have HSE := Lib.hid (sec_length HRW.out (seqOf s))
  refine alloc_g zero50 rfl ?_
  intro wC hC hBC hlC
  try simp only [Act.put, List.setIfInBounds_toArray, List.set_cons_succ, List.set_cons_zero]
  refine store_all (cs := (u8s ((rreadOf s).sec (seqOf s))).toArray) hC (by rw [u8s_size, HSE.out]; simp [zeros]) (by rw [u8s_size, HSE.out]; exact info50) (u8s_one _) rfl rfl rfl ?_
  intro wE hD hOD hlD
  try simp only [Act.put, List.setIfInBounds_toArray, List.set_cons_succ, List.set_cons_zero]
  have hBD := hBC.trans (hOD.below hBC.size (fun k hk => Nat.le_of_eq hk.symm))
  have H4 := Lib.hid (H3.out.below hBD)
  have HB4 := Lib.hid (HB3.out.below hBD)
  have HD4 := Lib.hid hD
  clear hC hBC hlC hD hOD hlD hBD H3 HB3
  generalize w3.heap.size = x at *
  clear w3 wC
  refine takeL (.int .i64 (rreadOf s).err) rfl (by go_simp) ?_
  try simp only [Act.put, List.setIfInBounds_toArray, List.set_cons_succ, List.set_cons_zero]
  refine wpList_nil ?_
  repeat (first | (with_reducible refine stopR (id := 15) ?_) | go_values | go_skip | go_guarded | go_step | go_upon | go_back)
  refine Stop.mk (wp_region_lit ?_)
  cases hg : (rreadOf s).good
  · have HSX : Hid ((rreadOf s).err = 11) := Lib.hid (err_bad hg)
    rw [HSX.out]
    have hnb : isBlock s = false := by rw [← HIS.out, hg]; rfl
    refine takeL (.int .i64 11) rfl (by go_simp) ?_
    try simp only [Act.put, List.setIfInBounds_toArray, List.set_cons_succ, List.set_cons_zero]
    refine takeL (.bool true) rfl (by go_simp) ?_
    try simp only [Act.put, List.setIfInBounds_toArray, List.set_cons_succ, List.set_cons_zero]
    refine takeL (.bool true) rfl (by go_simp) ?_
    try simp only [Act.put, List.setIfInBounds_toArray, List.set_cons_succ, List.set_cons_zero]
    refine passL rfl ?_
    try simp only [Act.put, List.setIfInBounds_toArray, List.set_cons_succ, List.set_cons_zero]
    refine passL rfl ?_
    try simp only [Act.put, List.setIfInBounds_toArray, List.set_cons_succ, List.set_cons_zero]
    refine passL rfl ?_
    try simp only [Act.put, List.setIfInBounds_toArray, List.set_cons_succ, List.set_cons_zero]
    refine takeL (.bool true) rfl (by go_simp) ?_
    try simp only [Act.put, List.setIfInBounds_toArray, List.set_cons_succ, List.set_cons_zero]
    refine wpList_nil ?_
    repeat (first | (with_reducible refine stopR (id := 16) ?_) | go_values | go_skip | go_guarded | go_step | go_upon | go_back)
    refine Stop.mk (wp_region_lit ?_)
    refine takeL (.agg (gotA Bk.none nilv 0 11)) rfl (exec_build _ _ _ _ 59 _ rfl #[(2, .int .i64 11)] (by simp only [List.map_toArray, List.map_cons, List.map_nil]; rfl) _ (build59e _)) ?_
    try simp only [Act.put, List.setIfInBounds_toArray, List.set_cons_succ, List.set_cons_zero]
    refine store_all (cs := gotA Bk.none nilv 0 11) H4.out.res (by rfl) (by exact info59) (gotA_one _ (BytesAt.nil w _ _) _ _) rfl rfl rfl ?_
    intro wZ hZ hOZ hlZ
    try simp only [Act.put, List.setIfInBounds_toArray, List.set_cons_succ, List.set_cons_zero]
    have HF := Lib.hid (H4.out.bel.trans (hOZ.below H4.out.bel.size (fun k hk => by have := H4.out.g0; have := H4.out.gr; omega)))
    refine wpList_nil ?_
    go_wp2_with fail
    refine bodyPost_ret (v := .agg (gotA Bk.none nilv 0 11)) (results_cell_at rfl _ _ r 0 _ _ rfl Try.underlying59 rfl (by exact info59) (Blk.all hZ rfl)) rfl ⟨nilv, by rw [(dec_no hnb).1, (dec_no hnb).2.1, (dec_no hnb).2.2], by rw [(dec_no hnb).1]; exact BytesAt.nil _ _ _, HF.out, Fresh.nil _⟩
  · have HSX : Hid ((rreadOf s).err = 0) := Lib.hid (err_good hg)
    have HSS : Hid ((rreadOf s).sec (seqOf s) = (rreadOf s).enc (seqOf s)) := Lib.hid (sec_good hg _)
    have HNQ := Lib.hid fun w => neq50 w ((rreadOf s).sec (seqOf s)) s HSE.out HS.out.length
    rw [HSX.out]
    refine takeL (.int .i64 0) rfl (by go_simp) ?_
    try simp only [Act.put, List.setIfInBounds_toArray, List.set_cons_succ, List.set_cons_zero]
    refine takeL (.bool false) rfl (by go_simp) ?_
    try simp only [Act.put, List.setIfInBounds_toArray, List.set_cons_succ, List.set_cons_zero]
    refine takeL (.bool false) rfl (by go_simp) ?_
    try simp only [Act.put, List.setIfInBounds_toArray, List.set_cons_succ, List.set_cons_zero]
    refine load50 (cs := (u8s ((rreadOf s).sec (seqOf s))).toArray) (Blk.all HD4.out rfl) (by rw [u8s_size, HSE.out]) rfl rfl ?_
    try simp only [Act.put, List.setIfInBounds_toArray, List.set_cons_succ, List.set_cons_zero]
    refine load50 (cs := (u8s s).toArray) (Blk.all H4.out.sec rfl) HSL.out rfl rfl ?_
    try simp only [Act.put, List.setIfInBounds_toArray, List.set_cons_succ, List.set_cons_zero]
    by_cases he : (rreadOf s).sec (seqOf s) = s
    · have hnb : isBlock s = true := by rw [← HIS.out, hg, ← HSS.out, he]; simp
      simp only [he, decide_true] at HNQ
      refine takeL (.bool false) rfl (by have hq := HNQ.out; go_simp) ?_
      try simp only [Act.put, List.setIfInBounds_toArray, List.set_cons_succ, List.set_cons_zero]
      refine takeL (.bool false) rfl (by go_simp) ?_
      try simp only [Act.put, List.setIfInBounds_toArray, List.set_cons_succ, List.set_cons_zero]
      refine wpList_nil ?_
      repeat (first | (with_reducible refine stopR (id := 17) ?_) | go_values | go_skip | go_guarded | go_step | go_upon | go_back)
      refine Stop.mk (wp_region_lit ?_)
      refine load57 (cs := (rreadOf s).arr sv') (Blk.all H4.out.blk rfl) ((rreadOf s).arr_size HRW.out _) rfl rfl ?_
      try simp only [Act.put, List.setIfInBounds_toArray, List.set_cons_succ, List.set_cons_zero]
      refine takeL (.int .u32 (seqOf s)) rfl (by go_simp) ?_
      try simp only [Act.put, List.setIfInBounds_toArray, List.set_cons_succ, List.set_cons_zero]
      refine takeL (.agg (gotA (rreadOf s) sv' (seqOf s) 0)) rfl (exec_build _ _ _ _ 59 _ rfl #[(0, .agg ((rreadOf s).arr sv')), (1, .int .u32 (seqOf s))] (by simp only [List.map_toArray, List.map_cons, List.map_nil]; rfl) _ (build59b HRW.out _ _ _)) ?_
      try simp only [Act.put, List.setIfInBounds_toArray, List.set_cons_succ, List.set_cons_zero]
      refine store_all (cs := gotA (rreadOf s) sv' (seqOf s) 0) H4.out.res (by rw [gotA_size HRW.out]; rfl) (by rw [gotA_size HRW.out]; exact info59) (gotA_one _ HB4.out _ _) rfl rfl rfl ?_
      intro wZ hZ hOZ hlZ
      try simp only [Act.put, List.setIfInBounds_toArray, List.set_cons_succ, List.set_cons_zero]
      have HF := Lib.hid (H4.out.bel.trans (hOZ.below H4.out.bel.size (fun k hk => by have := H4.out.g0; have := H4.out.gr; omega)))
      have HRQ : Hid (rreadOf s = readOf s) := Lib.hid (rread_same fun k2 => Classical.byContradiction fun h7 => by
        have g := (is_good hnb).1
        have := (good2 g k2).1.2
        have e : (readOf s).bytes = (s.drop 8).take (min 16 (s.getD 7 0).toNat) ++ zeros ((s.getD 7 0).toNat - 16) := by
          simp only [readOf]
          rw [if_pos k2]
        rw [e, List.length_append, List.length_take, List.length_drop, HS.out.length, zeros_length] at this
        omega)
      refine wpList_nil ?_
      go_wp2_with fail
      refine bodyPost_ret (v := .agg (gotA (rreadOf s) sv' (seqOf s) 0)) (results_cell_at rfl _ _ r 0 _ _ rfl Try.underlying59 rfl (by rw [gotA_size HRW.out]; exact info59) (Blk.all hZ rfl)) rfl ⟨sv', by rw [(dec_yes hnb).1, (dec_yes hnb).2.1, (dec_yes hnb).2.2, HRQ.out], ?_, HF.out, HFRG.out⟩
      rw [(dec_yes hnb).1, ← HRQ.out]
      exact HB4.out.only hOZ HFRR.out
    · have hnb : isBlock s = false := by rw [← HIS.out, hg, ← HSS.out]; simpa using he
      simp only [he, decide_false] at HNQ
      refine takeL (.bool true) rfl (by have hq := HNQ.out; go_simp) ?_
      try simp only [Act.put, List.setIfInBounds_toArray, List.set_cons_succ, List.set_cons_zero]
      refine takeL (.bool true) rfl (by go_simp) ?_
      try simp only [Act.put, List.setIfInBounds_toArray, List.set_cons_succ, List.set_cons_zero]
      refine wpList_nil ?_
      repeat (first | (with_reducible refine stopR (id := 16) ?_) | go_values | go_skip | go_guarded | go_step | go_upon | go_back)
      refine Stop.mk (wp_region_lit ?_)
      refine takeL (.agg (gotA Bk.none nilv 0 11)) rfl (exec_build _ _ _ _ 59 _ rfl #[(2, .int .i64 11)] (by simp only [List.map_toArray, List.map_cons, List.map_nil]; rfl) _ (build59e _)) ?_
      try simp only [Act.put, List.setIfInBounds_toArray, List.set_cons_succ, List.set_cons_zero]
      refine store_all (cs := gotA Bk.none nilv 0 11) H4.out.res (by rfl) (by exact info59) (gotA_one _ (BytesAt.nil w _ _) _ _) rfl rfl rfl ?_
      intro wZ hZ hOZ hlZ
      try simp only [Act.put, List.setIfInBounds_toArray, List.set_cons_succ, List.set_cons_zero]
      have HF := Lib.hid (H4.out.bel.trans (hOZ.below H4.out.bel.size (fun k hk => by have := H4.out.g0; have := H4.out.gr; omega)))
      refine wpList_nil ?_
      go_wp2_with fail
      refine bodyPost_ret (v := .agg (gotA Bk.none nilv 0 11)) (results_cell_at rfl _ _ r 0 _ _ rfl Try.underlying59 rfl (by exact info59) (Blk.all hZ rfl)) rfl ⟨nilv, by rw [(dec_no hnb).1, (dec_no hnb).2.1, (dec_no hnb).2.2], by rw [(dec_no hnb).1]; exact BytesAt.nil _ _ _, HF.out, Fresh.nil _⟩
theorem rdecode_any (s : List Int) (hs : Sc s) (w : World) : Calls Try.prog 24 #[.agg (u8s s).toArray] w fun e w' => ∃ sv, e = .returned (.agg (gotA (decB s) sv (decN s) (decE s))) ∧ BytesAt w' sv (decB s).bytes ∧ Below w.heap.size w w' ∧ Fresh w.heap.size sv := by
  by_cases k1 : kindOf s = 1
  · exact rdec_img s hs k1 w
  · by_cases k2 : kindOf s = 2
    · exact rdec_dlt s hs k2 w
    · by_cases k3 : kindOf s = 3
      · exact rdec_map s hs k3 w
      · exact rdec_oth s hs ⟨k1, k2, k3⟩ w
end Go.Proofs.Ytbhaifdhmfmeoaa
