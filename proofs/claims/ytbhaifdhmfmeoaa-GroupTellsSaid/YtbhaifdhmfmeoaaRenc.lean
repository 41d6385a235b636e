/- The statements' own sector of a block. -/
import Derived.Test.YtbhaifdhmfmeoaaRgood
import Derived.Test.YtbhaifdhmfmeoaaRsmall
import Derived.Deep.Cut
import Derived.Deep.CutRange
namespace Go.Proofs.Ytbhaifdhmfmeoaa
set_option linter.unusedSimpArgs false
set_option linter.unusedVariables false
open Go.RowKit

theorem rsec1 {b : Bk} (w : b.Wf) (k : b.kind = 1) (n : Int) : ([1, b.id] ++ le 4 n ++ b.page).length = 38 ∧ ([1, b.id] ++ le 4 n ++ b.page) ++ zeros (64 - ([1, b.id] ++ le 4 n ++ b.page).length) = b.enc n := by
  have hl : ([1, b.id] ++ le 4 n ++ b.page).length = 38 := by simp [le_length, w.page]
  refine ⟨hl, ?_⟩
  rw [hl]
  unfold Bk.enc
  rw [if_pos k]
  simp
theorem rsec2 {b : Bk} (h : b.good = true) (k : b.kind = 2) (n : Int) : ([2, b.id] ++ le 4 n ++ [b.off, (b.bytes.length : Int)] ++ b.bytes ++ zeros (16 - b.bytes.length) ++ le 2 b.prev).length = 26 ∧
    ([2, b.id] ++ le 4 n ++ [b.off, (b.bytes.length : Int)] ++ b.bytes ++ zeros (16 - b.bytes.length) ++ le 2 b.prev) ++ zeros (64 - ([2, b.id] ++ le 4 n ++ [b.off, (b.bytes.length : Int)] ++ b.bytes ++ zeros (16 - b.bytes.length) ++ le 2 b.prev).length) = b.enc n := by
  obtain ⟨⟨h1, h2⟩, _⟩ := good2 h k
  have hl : ([2, b.id] ++ le 4 n ++ [b.off, (b.bytes.length : Int)] ++ b.bytes ++ zeros (16 - b.bytes.length) ++ le 2 b.prev).length = 26 := by
    simp [le_length, zeros_length]
    omega
  refine ⟨hl, ?_⟩
  rw [hl]
  unfold Bk.enc
  rw [if_neg (by omega), if_pos k]
  simp
theorem rsec3 {b : Bk} (w : b.Wf) (k : b.kind = 3) (n : Int) : ([3, b.id] ++ le 4 n ++ b.heads.flatMap (le 2)).length = 22 ∧ ([3, b.id] ++ le 4 n ++ b.heads.flatMap (le 2)) ++ zeros (64 - ([3, b.id] ++ le 4 n ++ b.heads.flatMap (le 2)).length) = b.enc n := by
  have hf := flat_length b.heads
  rw [w.heads] at hf
  have hl : ([3, b.id] ++ le 4 n ++ b.heads.flatMap (le 2)).length = 22 := by
    rw [List.length_append, List.length_append, hf, le_length]
    rfl
  refine ⟨hl, ?_⟩
  rw [hl]
  unfold Bk.enc
  rw [if_neg (by omega), if_neg (by omega)]
  simp
theorem zeros_G {B : Nat} {sv : Value} {l : List Int} {k : Nat} {o : Oper} {a : Act} {w : World} {K : Act → World → Prop} {Q : Exit → Act → World → Prop} (x y : Operand) (dst : Option Tmp) (hd : o.dst = dst) (ho : o.op = .call { callee := .builtin .append, args := #[x, y], argTypes := #[54, 3] })
    (h : Own w B sv l) (hl : 0 < l.length) (hB : B ≤ w.heap.size) (hlen : l.length + k ≤ 1000000) (hx : a.eval x = sv) (hy : a.eval y = .int .i64 k)
    (hh : ∀ sv' w', Own w' B sv' (l ++ zeros k) → w.grownBy w' sv.ownBlock → K (a.put dst sv') w') : o.wp Try.prog a w K Q := by
  obtain ⟨sv', w', hr, hO, hg⟩ := app_zeros h hl hB k hlen o.type
  exact wp_runTo dst hd sv' w' (exec_app a.eval o x y 54 3 ho sv _ sv' hx hy hr) (hh sv' w' hO hg)
theorem ES.grow {W w w' : World} {g r B : Nat} {b : Bk} {sv : Value} (h : ES W w g r b sv) (hg : g < B) (hr : r < B) (hb : Below B w w') (hB : B ≤ w.heap.size) : ES W w' g r b sv :=
  ⟨h.bat.below hb hg, h.res.below hb hr, ⟨hb.os.trans h.bel.os, hb.tape.trans h.bel.tape, hb.output.trans h.bel.output, Nat.le_trans h.bel.size hb.size, fun k hk => (hb.block k (by have := h.g0; omega)).trans (h.bel.block k hk)⟩, h.g0, h.gr⟩
set_option maxHeartbeats 2000000 in
set_option maxRecDepth 100000 in
theorem rencode_no (b : Bk) (sv : Value) (n : Int) (w : World) (hs : BytesAt w sv b.bytes) (hw : b.Wf) (hg : b.good = false) : Calls Try.prog 26 #[.agg (b.arr sv), .int .u32 n] w fun e w' => e = .returned (.tuple #[.agg (u8s (zeros 64)).toArray, .int .i64 11]) ∧ Below w.heap.size w w' := by
  have HSZ := Lib.hid (b.arr_size hw sv)
  have HW := Lib.hid hw
  have HG := Lib.hid fun w => rgood_any b sv hs.len hw w
  rw [hg] at HG
  go_enter Try.func26, Try.ntmps26
  repeat (first | (with_reducible refine stopR (id := 0) ?_) | go_values | go_skip | go_guarded | go_step | go_upon | go_back)
  refine Stop.mk (wp_region_lit ?_)
  refine box_g rfl rfl ?_
  intro wA hA hB hl
  try simp only [Act.put, List.setIfInBounds_toArray, List.set_cons_succ, List.set_cons_zero]
  refine alloc_g zero50 rfl ?_
  intro wB hR hB2 hl2
  try simp only [Act.put, List.setIfInBounds_toArray, List.set_cons_succ, List.set_cons_zero]
  refine takeL (.int .i64 0) rfl (by go_simp) ?_
  try simp only [Act.put, List.setIfInBounds_toArray, List.set_cons_succ, List.set_cons_zero]
  have H0 : Hid (ES w wB w.heap.size wA.heap.size b sv) := Lib.hid ⟨⟨hA.below hB2 hl, HW.out⟩, hR, hB.trans (hB2.mono hB.size), Nat.le_refl _, hl⟩
  clear hA hB hl hR hB2 hl2
  generalize hgg : w.heap.size = g at *
  generalize hrr : wA.heap.size = r at *
  have HGG := Lib.hid hgg
  clear hgg hrr wA
  refine wpList_nil ?_
  repeat (first | (with_reducible refine stopR (id := 1) ?_) | go_values | go_skip | go_guarded | go_step | go_upon | go_back)
  refine Stop.mk (wp_region_lit ?_)
  refine load57 H0.out.bat.all HSZ.out rfl rfl ?_
  try simp only [Act.put, List.setIfInBounds_toArray, List.set_cons_succ, List.set_cons_zero]
  refine wpList_op rfl fun K hK => ?_
  go_simp
  refine (HG.out _).mono ?_
  rintro e w1 ⟨rfl, hb⟩
  refine hK _ _ ?_
  clear hK K
  try simp only [Act.put, List.setIfInBounds_toArray, List.set_cons_succ, List.set_cons_zero]
  have H1 := Lib.hid (H0.out.below hb)
  clear hb H0
  refine takeL (.bool true) rfl (by go_simp) ?_
  try simp only [Act.put, List.setIfInBounds_toArray, List.set_cons_succ, List.set_cons_zero]
  refine wpList_nil ?_
  repeat (first | (with_reducible refine stopR (id := 2) ?_) | go_values | go_skip | go_guarded | go_step | go_upon | go_back)
  refine Stop.mk (wp_region_lit ?_)
  refine build_g (build50 _) rfl ?_
  try simp only [Act.put, List.setIfInBounds_toArray, List.set_cons_succ, List.set_cons_zero]
  refine store_all H1.out.res (by simp) (by simpa [zeros] using info50) (u8s_one _) rfl rfl rfl ?_
  intro wZ hZ hOZ hlZ
  try simp only [Act.put, List.setIfInBounds_toArray, List.set_cons_succ, List.set_cons_zero]
  refine takeL (.int .i64 11) rfl (by go_simp) ?_
  try simp only [Act.put, List.setIfInBounds_toArray, List.set_cons_succ, List.set_cons_zero]
  have HF := Lib.hid (H1.out.bel.trans (hOZ.below H1.out.bel.size (fun k hk => by have := H1.out.g0; have := H1.out.gr; omega)))
  refine wpList_nil ?_
  go_wp2_with fail
  refine bodyPost_ret (v := .tuple #[.agg (u8s (zeros 64)).toArray, .int .i64 11]) (results_cell_tmp rfl _ _ r 0 _ _ _ rfl rfl Try.underlying50 rfl (by simpa [zeros] using info50) (hZ.all rfl)) rfl ⟨rfl, HF.out⟩
set_option maxHeartbeats 2000000 in
set_option maxRecDepth 100000 in
theorem rencode_img (b : Bk) (sv : Value) (n : Int) (w : World) (hs : BytesAt w sv b.bytes) (hw : b.Wf) (hg : b.good = true) (hk : b.kind = 1) (hn : 0 ≤ n ∧ n < 4294967296) : Calls Try.prog 26 #[.agg (b.arr sv), .int .u32 n] w fun e w' => e = .returned (.tuple #[.agg (u8s (b.enc n)).toArray, .int .i64 0]) ∧ Below w.heap.size w w' := by
  have HSZ := Lib.hid (b.arr_size hw sv)
  have HW := Lib.hid hw
  have HG := Lib.hid fun w => rgood_any b sv hs.len hw w
  rw [hg] at HG
  obtain ⟨hn1, hn2⟩ := hn
  obtain ⟨_, hi1, hi2⟩ := good_kind hg
  have HK := Lib.hid hk
  have HL := Lib.hid (enc_length hg hw n)
  have HLL := Lib.hid (rsec1 hw hk n)
  clear hg hk hw
  go_enter Try.func26, Try.ntmps26
  repeat (first | (with_reducible refine stopR (id := 0) ?_) | go_values | go_skip | go_guarded | go_step | go_upon | go_back)
  refine Stop.mk (wp_region_lit ?_)
  refine box_g rfl rfl ?_
  intro wA hA hB hl
  try simp only [Act.put, List.setIfInBounds_toArray, List.set_cons_succ, List.set_cons_zero]
  refine alloc_g zero50 rfl ?_
  intro wB hR hB2 hl2
  try simp only [Act.put, List.setIfInBounds_toArray, List.set_cons_succ, List.set_cons_zero]
  refine takeL (.int .i64 0) rfl (by go_simp) ?_
  try simp only [Act.put, List.setIfInBounds_toArray, List.set_cons_succ, List.set_cons_zero]
  have H0 : Hid (ES w wB w.heap.size wA.heap.size b sv) := Lib.hid ⟨⟨hA.below hB2 hl, HW.out⟩, hR, hB.trans (hB2.mono hB.size), Nat.le_refl _, hl⟩
  clear hA hB hl hR hB2 hl2
  generalize hgg : w.heap.size = g at *
  generalize hrr : wA.heap.size = r at *
  have HGG := Lib.hid hgg
  clear hgg hrr wA
  refine wpList_nil ?_
  repeat (first | (with_reducible refine stopR (id := 1) ?_) | go_values | go_skip | go_guarded | go_step | go_upon | go_back)
  refine Stop.mk (wp_region_lit ?_)
  refine load57 H0.out.bat.all HSZ.out rfl rfl ?_
  try simp only [Act.put, List.setIfInBounds_toArray, List.set_cons_succ, List.set_cons_zero]
  refine wpList_op rfl fun K hK => ?_
  go_simp
  refine (HG.out _).mono ?_
  rintro e w1 ⟨rfl, hb⟩
  refine hK _ _ ?_
  clear hK K
  try simp only [Act.put, List.setIfInBounds_toArray, List.set_cons_succ, List.set_cons_zero]
  have H1 := Lib.hid (H0.out.below hb)
  clear hb H0
  refine takeL (.bool false) rfl (by go_simp) ?_
  try simp only [Act.put, List.setIfInBounds_toArray, List.set_cons_succ, List.set_cons_zero]
  refine wpList_nil ?_
  go_upto_region 3 with fail
  go_cut [6] from 12 to 22 (fun s6 wx => ∃ o, o = s6 ∧ Own wx w1.heap.size o ([1, b.id] ++ le 4 n) ∧ Below w1.heap.size w1 wx)
  case first =>
    have HC0 := Lib.hid (fun (wq : World) (hS : Below w1.heap.size w1 wq) => show wq.cell? ⟨g, 0, none⟩ = some (.int .i64 1) from by
      have hq := (H1.out.bat.below hS H1.out.bat.lt).c0
      rwa [HK.out] at hq)
    refine startH (fun wq => Below w1.heap.size w1 wq) (by kernel_rfl) ?_
    have HS : Hid (Below w1.heap.size w1 w1.drew) := Lib.hid (Below.refl _ _).drew
    generalize w1.drew = wS at *
    refine takeH 0 (some 12) (.pointer (some ⟨g, 0, none⟩)) rfl rfl (by kernel_rfl) (by kernel_rfl) (by kernel_rfl) (fun _ _ _ h => h) rfl (fun wq hS => by go_simp) HS.out ?_
    try simp only [Act.put, List.setIfInBounds_toArray, List.set_cons_succ, List.set_cons_zero]
    refine takeH 1 (some 13) (.int .i64 1) rfl rfl (by kernel_rfl) (by kernel_rfl) (by kernel_rfl) (fun _ _ _ h => h) rfl (fun wq hS => by have hq := HC0.out wq hS; go_simp) HS.out ?_
    try simp only [Act.put, List.setIfInBounds_toArray, List.set_cons_succ, List.set_cons_zero]
    refine takeH 2 (some 14) (.int .u8 1) rfl rfl (by kernel_rfl) (by kernel_rfl) (by kernel_rfl) (fun _ _ _ h => h) rfl (fun wq hS => by go_simp; rfl) HS.out ?_
    try simp only [Act.put, List.setIfInBounds_toArray, List.set_cons_succ, List.set_cons_zero]
    refine takeH 3 (some 15) (.pointer (some ⟨g, 1, none⟩)) rfl rfl (by kernel_rfl) (by kernel_rfl) (by kernel_rfl) (fun _ _ _ h => h) rfl (fun wq hS => by go_simp) HS.out ?_
    try simp only [Act.put, List.setIfInBounds_toArray, List.set_cons_succ, List.set_cons_zero]
    refine takeH 4 (some 16) (.int .i64 b.id) rfl rfl (by kernel_rfl) (by kernel_rfl) (by kernel_rfl) (fun _ _ _ h => h) rfl (fun wq hS => by have hq := (H1.out.bat.below hS H1.out.bat.lt).c1; go_simp) HS.out ?_
    try simp only [Act.put, List.setIfInBounds_toArray, List.set_cons_succ, List.set_cons_zero]
    refine takeH 5 (some 17) (.int .u8 b.id) rfl rfl (by kernel_rfl) (by kernel_rfl) (by kernel_rfl) (fun _ _ _ h => h) rfl (fun wq hS => by go_simp; exact wrap8 (by omega) (by omega)) HS.out ?_
    try simp only [Act.put, List.setIfInBounds_toArray, List.set_cons_succ, List.set_cons_zero]
    refine takeH 7 (some 19) (.int .u32 n) rfl rfl (by kernel_rfl) (by kernel_rfl) (by kernel_rfl) (fun _ _ _ h => h) rfl (fun wq hS => by go_simp) HS.out ?_
    try simp only [Act.put, List.setIfInBounds_toArray, List.set_cons_succ, List.set_cons_zero]
    refine twoH 6 8 (by kernel_rfl) rfl rfl rfl rfl (fun K hK => ?_) (fun K hK => ?_)
    · refine wp_runTo (some 18) rfl (.slice (some ⟨wS.heap.size, 0, none⟩) 2 2) (wS.alloc (.cells #[.int .u8 1, .int .u8 b.id] 5)) (by go_simp) ?_
      have hb1 := (Below.refl wS.heap.size wS).alloc (Nat.le_refl _) (.cells #[.int .u8 1, .int .u8 b.id] 5)
      have hlit := Own.lit wS w1.heap.size HS.out.size [1, b.id] (by simp) _ rfl
      generalize (Value.slice (some ⟨wS.heap.size, 0, none⟩) 2 2) = lv at *
      have HL1 : Hid (Own (wS.alloc (.cells #[.int .u8 1, .int .u8 b.id] 5)) w1.heap.size lv [1, b.id]) := Lib.hid hlit
      have HS' := Lib.hid (HS.out.trans (hb1.mono HS.out.size))
      have HQ0 := Lib.hid (HS.out)
      clear HS
      have HS := HS'
      clear HS'
      refine hK _ _ HS.out ?_
      clear hK K hlit
      try simp only [Act.put, List.setIfInBounds_toArray, List.set_cons_succ, List.set_cons_zero]
      generalize wS.alloc (.cells #[.int .u8 1, .int .u8 b.id] 5) = wD at *
      refine oneH 8 (by kernel_rfl) rfl rfl fun K hK => ?_
      go_simp
      refine (rput4_any n ⟨hn1, hn2⟩ wD).mono ?_
      rintro e w3 ⟨pv, rfl, hpo, hpb⟩
      have HP1 := Lib.hid hpo.bytes
      have HL2 := Lib.hid (HL1.out.below hpb)
      have HS2 := Lib.hid (HS.out.trans (hpb.mono HS.out.size))
      clear HL1 HS hpo hpb hb1
      have HL1 := HL2
      have HS := HS2
      clear HL2 HS2
      refine hK _ _ HS.out ?_
      clear hK K
      try simp only [Act.put, List.setIfInBounds_toArray, List.set_cons_succ, List.set_cons_zero]
      refine oneH 9 (by kernel_rfl) rfl rfl fun K hK => ?_
      refine app_W _ _ (some 21) rfl rfl HL1.out HS.out.size HP1.out (by simp [le_length]) rfl rfl ?_
      intro sv' w' hO hB'
      have HSF := Lib.hid (HS.out.trans hB')
      have HOF := Lib.hid hO
      refine hK _ _ HSF.out ?_
      clear hK K hO hB'
      try simp only [Act.put, List.setIfInBounds_toArray, List.set_cons_succ, List.set_cons_zero]
      refine takeH 10 (some 6) sv' rfl rfl (by kernel_rfl) (by kernel_rfl) (by kernel_rfl) (fun _ _ _ h => h) rfl (fun wq hS => by go_simp) HSF.out ?_
      try simp only [Act.put, List.setIfInBounds_toArray, List.set_cons_succ, List.set_cons_zero]
      refine wpAnyH_done (by kernel_rfl) ?_ _
      go_wp2_with fail
      go_meet
      exact ⟨_, rfl, HOF.out, HSF.out⟩
    · go_simp
      refine (rput4_any n ⟨hn1, hn2⟩ wS).mono ?_
      rintro e w3 ⟨pv, rfl, hpo, hpb⟩
      have HP0 := Lib.hid hpo.bytes
      have HS2 := Lib.hid (HS.out.trans (hpb.mono HS.out.size))
      clear HS hpo hpb
      have HS := HS2
      clear HS2
      refine hK _ _ HS.out ?_
      clear hK K
      try simp only [Act.put, List.setIfInBounds_toArray, List.set_cons_succ, List.set_cons_zero]
      refine oneH 6 (by kernel_rfl) rfl rfl fun K hK => ?_
      refine wp_runTo (some 18) rfl (.slice (some ⟨w3.heap.size, 0, none⟩) 2 2) (w3.alloc (.cells #[.int .u8 1, .int .u8 b.id] 5)) (by go_simp) ?_
      have hb1 := (Below.refl w3.heap.size w3).alloc (Nat.le_refl _) (.cells #[.int .u8 1, .int .u8 b.id] 5)
      have hlit := Own.lit w3 w1.heap.size HS.out.size [1, b.id] (by simp) _ rfl
      generalize (Value.slice (some ⟨w3.heap.size, 0, none⟩) 2 2) = lv at *
      have HL1 : Hid (Own (w3.alloc (.cells #[.int .u8 1, .int .u8 b.id] 5)) w1.heap.size lv [1, b.id]) := Lib.hid hlit
      have HS' := Lib.hid (HS.out.trans (hb1.mono HS.out.size))
      have HP1 := Lib.hid (HP0.out.below hb1)
      clear HS HP0
      have HS := HS'
      clear HS'
      refine hK _ _ HS.out ?_
      clear hK K hlit hb1
      try simp only [Act.put, List.setIfInBounds_toArray, List.set_cons_succ, List.set_cons_zero]
      generalize w3.alloc (.cells #[.int .u8 1, .int .u8 b.id] 5) = wD at *
      refine oneH 9 (by kernel_rfl) rfl rfl fun K hK => ?_
      refine app_W _ _ (some 21) rfl rfl HL1.out HS.out.size HP1.out (by simp [le_length]) rfl rfl ?_
      intro sv' w' hO hB'
      have HSF := Lib.hid (HS.out.trans hB')
      have HOF := Lib.hid hO
      refine hK _ _ HSF.out ?_
      clear hK K hO hB'
      try simp only [Act.put, List.setIfInBounds_toArray, List.set_cons_succ, List.set_cons_zero]
      refine takeH 10 (some 6) sv' rfl rfl (by kernel_rfl) (by kernel_rfl) (by kernel_rfl) (fun _ _ _ h => h) rfl (fun wq hS => by go_simp) HSF.out ?_
      try simp only [Act.put, List.setIfInBounds_toArray, List.set_cons_succ, List.set_cons_zero]
      refine wpAnyH_done (by kernel_rfl) ?_ _
      go_wp2_with fail
      go_meet
      exact ⟨_, rfl, HOF.out, HSF.out⟩
  case rest =>
  obtain ⟨s6, rfl, hO3, hB3⟩ := hcut
  have HO3 := Lib.hid hO3
  have H3 := Lib.hid (H1.out.below hB3)
  have HBS := Lib.hid hB3.size
  have HB3 := Lib.hid hB3
  clear hO3 hB3
  have c0 := H3.out.bat.c0
  rw [HK.out] at c0
  repeat (first | (with_reducible refine stopR (id := 6) ?_) | go_values | go_skip | go_guarded | go_step | go_upon | go_back)
  refine Stop.mk (wp_region_lit ?_)
  refine takeL s6 rfl (by go_simp) ?_
  try simp only [Act.put, List.setIfInBounds_toArray, List.set_cons_succ, List.set_cons_zero]
  refine takeL (.pointer (some ⟨g, 2, none⟩)) rfl (by go_simp) ?_
  try simp only [Act.put, List.setIfInBounds_toArray, List.set_cons_succ, List.set_cons_zero]
  refine takeL (.slice (some ⟨g, 2, none⟩) 32 32) rfl (by go_simp) ?_
  try simp only [Act.put, List.setIfInBounds_toArray, List.set_cons_succ, List.set_cons_zero]
  have hby2 : BytesAt _ (.slice (some ⟨g, 2, none⟩) b.page.length 32) b.page := ⟨_, 32, rfl, fun i x hx => ⟨g, 2, rfl, H3.out.bat.page_at i x hx⟩⟩
  rw [HW.out.page] at hby2
  refine app_L HO3.out HBS.out hby2 (by simp [le_length, HW.out.page]) rfl rfl rfl ?_
  intro s7 w7 hO7 hB7
  try simp only [Act.put, List.setIfInBounds_toArray, List.set_cons_succ, List.set_cons_zero]
  have HO7 := Lib.hid hO7
  have H7 := Lib.hid (ES.grow H3.out H1.out.bat.lt H1.out.res.lt hB7 HBS.out)
  clear hO7 hB7 hby2
  refine takeL s7 rfl (by go_simp) ?_
  try simp only [Act.put, List.setIfInBounds_toArray, List.set_cons_succ, List.set_cons_zero]
  refine wpList_nil ?_
  repeat (first | (with_reducible refine stopR (id := 15) ?_) | go_values | go_skip | go_guarded | go_step | go_upon | go_back)
  refine Stop.mk (wp_region_lit ?_)
  refine takeL s7 rfl (by go_simp) ?_
  try simp only [Act.put, List.setIfInBounds_toArray, List.set_cons_succ, List.set_cons_zero]
  refine wpList_op rfl fun K hK => ?_
  go_simp
  refine (rsector_any s7 _ (by rw [HLL.out.1]; decide) (by rw [HLL.out.1]; decide) _ HO7.out.bytes).mono ?_
  rintro e w8 ⟨rfl, hb⟩
  rw [HLL.out.2]
  refine hK _ _ ?_
  clear hK K
  try simp only [Act.put, List.setIfInBounds_toArray, List.set_cons_succ, List.set_cons_zero]
  have HE8 := Lib.hid (H7.out.below hb)
  clear hb
  refine store_all (cs := (u8s (b.enc n)).toArray) HE8.out.res (by rw [u8s_size, HL.out]; simp [zeros]) (by rw [u8s_size, HL.out]; exact info50) (u8s_one _) rfl rfl rfl ?_
  intro wZ hZ hOZ hlZ
  try simp only [Act.put, List.setIfInBounds_toArray, List.set_cons_succ, List.set_cons_zero]
  refine takeL (.int .i64 0) rfl (by go_simp) ?_
  try simp only [Act.put, List.setIfInBounds_toArray, List.set_cons_succ, List.set_cons_zero]
  have HF := Lib.hid (HE8.out.bel.trans (hOZ.below HE8.out.bel.size (fun k hk => by have := HE8.out.g0; have := HE8.out.gr; omega)))
  refine wpList_nil ?_
  go_wp2_with fail
  refine bodyPost_ret (v := .tuple #[.agg (u8s (b.enc n)).toArray, .int .i64 0]) (results_cell_tmp rfl _ _ r 0 _ _ _ rfl rfl Try.underlying50 rfl (by rw [u8s_size, HL.out]; exact info50) ?_) rfl ⟨rfl, HF.out⟩
  exact Blk.all (cs := (u8s (b.enc n)).toArray) hZ rfl
set_option maxHeartbeats 2000000 in
set_option maxRecDepth 100000 in
theorem rencode_dlt (b : Bk) (sv : Value) (n : Int) (w : World) (hs : BytesAt w sv b.bytes) (hw : b.Wf) (hg : b.good = true) (hk : b.kind = 2) (hn : 0 ≤ n ∧ n < 4294967296) : Calls Try.prog 26 #[.agg (b.arr sv), .int .u32 n] w fun e w' => e = .returned (.tuple #[.agg (u8s (b.enc n)).toArray, .int .i64 0]) ∧ Below w.heap.size w w' := by
  have HSZ := Lib.hid (b.arr_size hw sv)
  have HW := Lib.hid hw
  have HG := Lib.hid fun w => rgood_any b sv hs.len hw w
  rw [hg] at HG
  obtain ⟨hn1, hn2⟩ := hn
  obtain ⟨_, hi1, hi2⟩ := good_kind hg
  have HK := Lib.hid hk
  have HL := Lib.hid (enc_length hg hw n)
  have HLL := Lib.hid (rsec2 hg hk n)
  obtain ⟨⟨hb1, hb2⟩, ⟨ho1, ho2⟩, ⟨hp1, hp2⟩, _⟩ := good2 hg hk
  have HBY := Lib.hid hs
  obtain ⟨p, q, cap, hsv, _⟩ := hs.has (by omega)
  have HSV := Lib.hid hsv
  clear hsv
  clear hg hk hw
  go_enter Try.func26, Try.ntmps26
  repeat (first | (with_reducible refine stopR (id := 0) ?_) | go_values | go_skip | go_guarded | go_step | go_upon | go_back)
  refine Stop.mk (wp_region_lit ?_)
  refine box_g rfl rfl ?_
  intro wA hA hB hl
  try simp only [Act.put, List.setIfInBounds_toArray, List.set_cons_succ, List.set_cons_zero]
  refine alloc_g zero50 rfl ?_
  intro wB hR hB2 hl2
  try simp only [Act.put, List.setIfInBounds_toArray, List.set_cons_succ, List.set_cons_zero]
  refine takeL (.int .i64 0) rfl (by go_simp) ?_
  try simp only [Act.put, List.setIfInBounds_toArray, List.set_cons_succ, List.set_cons_zero]
  have H0 : Hid (ES w wB w.heap.size wA.heap.size b sv) := Lib.hid ⟨⟨hA.below hB2 hl, HW.out⟩, hR, hB.trans (hB2.mono hB.size), Nat.le_refl _, hl⟩
  clear hA hB hl hR hB2 hl2
  generalize hgg : w.heap.size = g at *
  generalize hrr : wA.heap.size = r at *
  have HGG := Lib.hid hgg
  clear hgg hrr wA
  refine wpList_nil ?_
  repeat (first | (with_reducible refine stopR (id := 1) ?_) | go_values | go_skip | go_guarded | go_step | go_upon | go_back)
  refine Stop.mk (wp_region_lit ?_)
  refine load57 H0.out.bat.all HSZ.out rfl rfl ?_
  try simp only [Act.put, List.setIfInBounds_toArray, List.set_cons_succ, List.set_cons_zero]
  refine wpList_op rfl fun K hK => ?_
  go_simp
  refine (HG.out _).mono ?_
  rintro e w1 ⟨rfl, hb⟩
  refine hK _ _ ?_
  clear hK K
  try simp only [Act.put, List.setIfInBounds_toArray, List.set_cons_succ, List.set_cons_zero]
  have H1 := Lib.hid (H0.out.below hb)
  clear hb H0
  refine takeL (.bool false) rfl (by go_simp) ?_
  try simp only [Act.put, List.setIfInBounds_toArray, List.set_cons_succ, List.set_cons_zero]
  refine wpList_nil ?_
  go_upto_region 3 with fail
  go_cut [6] from 12 to 22 (fun s6 wx => ∃ o, o = s6 ∧ Own wx w1.heap.size o ([2, b.id] ++ le 4 n) ∧ Below w1.heap.size w1 wx)
  case first =>
    have HC0 := Lib.hid (fun (wq : World) (hS : Below w1.heap.size w1 wq) => show wq.cell? ⟨g, 0, none⟩ = some (.int .i64 2) from by
      have hq := (H1.out.bat.below hS H1.out.bat.lt).c0
      rwa [HK.out] at hq)
    refine startH (fun wq => Below w1.heap.size w1 wq) (by kernel_rfl) ?_
    have HS : Hid (Below w1.heap.size w1 w1.drew) := Lib.hid (Below.refl _ _).drew
    generalize w1.drew = wS at *
    refine takeH 0 (some 12) (.pointer (some ⟨g, 0, none⟩)) rfl rfl (by kernel_rfl) (by kernel_rfl) (by kernel_rfl) (fun _ _ _ h => h) rfl (fun wq hS => by go_simp) HS.out ?_
    try simp only [Act.put, List.setIfInBounds_toArray, List.set_cons_succ, List.set_cons_zero]
    refine takeH 1 (some 13) (.int .i64 2) rfl rfl (by kernel_rfl) (by kernel_rfl) (by kernel_rfl) (fun _ _ _ h => h) rfl (fun wq hS => by have hq := HC0.out wq hS; go_simp) HS.out ?_
    try simp only [Act.put, List.setIfInBounds_toArray, List.set_cons_succ, List.set_cons_zero]
    refine takeH 2 (some 14) (.int .u8 2) rfl rfl (by kernel_rfl) (by kernel_rfl) (by kernel_rfl) (fun _ _ _ h => h) rfl (fun wq hS => by go_simp; rfl) HS.out ?_
    try simp only [Act.put, List.setIfInBounds_toArray, List.set_cons_succ, List.set_cons_zero]
    refine takeH 3 (some 15) (.pointer (some ⟨g, 1, none⟩)) rfl rfl (by kernel_rfl) (by kernel_rfl) (by kernel_rfl) (fun _ _ _ h => h) rfl (fun wq hS => by go_simp) HS.out ?_
    try simp only [Act.put, List.setIfInBounds_toArray, List.set_cons_succ, List.set_cons_zero]
    refine takeH 4 (some 16) (.int .i64 b.id) rfl rfl (by kernel_rfl) (by kernel_rfl) (by kernel_rfl) (fun _ _ _ h => h) rfl (fun wq hS => by have hq := (H1.out.bat.below hS H1.out.bat.lt).c1; go_simp) HS.out ?_
    try simp only [Act.put, List.setIfInBounds_toArray, List.set_cons_succ, List.set_cons_zero]
    refine takeH 5 (some 17) (.int .u8 b.id) rfl rfl (by kernel_rfl) (by kernel_rfl) (by kernel_rfl) (fun _ _ _ h => h) rfl (fun wq hS => by go_simp; exact wrap8 (by omega) (by omega)) HS.out ?_
    try simp only [Act.put, List.setIfInBounds_toArray, List.set_cons_succ, List.set_cons_zero]
    refine takeH 7 (some 19) (.int .u32 n) rfl rfl (by kernel_rfl) (by kernel_rfl) (by kernel_rfl) (fun _ _ _ h => h) rfl (fun wq hS => by go_simp) HS.out ?_
    try simp only [Act.put, List.setIfInBounds_toArray, List.set_cons_succ, List.set_cons_zero]
    refine twoH 6 8 (by kernel_rfl) rfl rfl rfl rfl (fun K hK => ?_) (fun K hK => ?_)
    · refine wp_runTo (some 18) rfl (.slice (some ⟨wS.heap.size, 0, none⟩) 2 2) (wS.alloc (.cells #[.int .u8 2, .int .u8 b.id] 5)) (by go_simp) ?_
      have hb1 := (Below.refl wS.heap.size wS).alloc (Nat.le_refl _) (.cells #[.int .u8 2, .int .u8 b.id] 5)
      have hlit := Own.lit wS w1.heap.size HS.out.size [2, b.id] (by simp) _ rfl
      generalize (Value.slice (some ⟨wS.heap.size, 0, none⟩) 2 2) = lv at *
      have HL1 : Hid (Own (wS.alloc (.cells #[.int .u8 2, .int .u8 b.id] 5)) w1.heap.size lv [2, b.id]) := Lib.hid hlit
      have HS' := Lib.hid (HS.out.trans (hb1.mono HS.out.size))
      have HQ0 := Lib.hid (HS.out)
      clear HS
      have HS := HS'
      clear HS'
      refine hK _ _ HS.out ?_
      clear hK K hlit
      try simp only [Act.put, List.setIfInBounds_toArray, List.set_cons_succ, List.set_cons_zero]
      generalize wS.alloc (.cells #[.int .u8 2, .int .u8 b.id] 5) = wD at *
      refine oneH 8 (by kernel_rfl) rfl rfl fun K hK => ?_
      go_simp
      refine (rput4_any n ⟨hn1, hn2⟩ wD).mono ?_
      rintro e w3 ⟨pv, rfl, hpo, hpb⟩
      have HP1 := Lib.hid hpo.bytes
      have HL2 := Lib.hid (HL1.out.below hpb)
      have HS2 := Lib.hid (HS.out.trans (hpb.mono HS.out.size))
      clear HL1 HS hpo hpb hb1
      have HL1 := HL2
      have HS := HS2
      clear HL2 HS2
      refine hK _ _ HS.out ?_
      clear hK K
      try simp only [Act.put, List.setIfInBounds_toArray, List.set_cons_succ, List.set_cons_zero]
      refine oneH 9 (by kernel_rfl) rfl rfl fun K hK => ?_
      refine app_W _ _ (some 21) rfl rfl HL1.out HS.out.size HP1.out (by simp [le_length]) rfl rfl ?_
      intro sv' w' hO hB'
      have HSF := Lib.hid (HS.out.trans hB')
      have HOF := Lib.hid hO
      refine hK _ _ HSF.out ?_
      clear hK K hO hB'
      try simp only [Act.put, List.setIfInBounds_toArray, List.set_cons_succ, List.set_cons_zero]
      refine takeH 10 (some 6) sv' rfl rfl (by kernel_rfl) (by kernel_rfl) (by kernel_rfl) (fun _ _ _ h => h) rfl (fun wq hS => by go_simp) HSF.out ?_
      try simp only [Act.put, List.setIfInBounds_toArray, List.set_cons_succ, List.set_cons_zero]
      refine wpAnyH_done (by kernel_rfl) ?_ _
      go_wp2_with fail
      go_meet
      exact ⟨_, rfl, HOF.out, HSF.out⟩
    · go_simp
      refine (rput4_any n ⟨hn1, hn2⟩ wS).mono ?_
      rintro e w3 ⟨pv, rfl, hpo, hpb⟩
      have HP0 := Lib.hid hpo.bytes
      have HS2 := Lib.hid (HS.out.trans (hpb.mono HS.out.size))
      clear HS hpo hpb
      have HS := HS2
      clear HS2
      refine hK _ _ HS.out ?_
      clear hK K
      try simp only [Act.put, List.setIfInBounds_toArray, List.set_cons_succ, List.set_cons_zero]
      refine oneH 6 (by kernel_rfl) rfl rfl fun K hK => ?_
      refine wp_runTo (some 18) rfl (.slice (some ⟨w3.heap.size, 0, none⟩) 2 2) (w3.alloc (.cells #[.int .u8 2, .int .u8 b.id] 5)) (by go_simp) ?_
      have hb1 := (Below.refl w3.heap.size w3).alloc (Nat.le_refl _) (.cells #[.int .u8 2, .int .u8 b.id] 5)
      have hlit := Own.lit w3 w1.heap.size HS.out.size [2, b.id] (by simp) _ rfl
      generalize (Value.slice (some ⟨w3.heap.size, 0, none⟩) 2 2) = lv at *
      have HL1 : Hid (Own (w3.alloc (.cells #[.int .u8 2, .int .u8 b.id] 5)) w1.heap.size lv [2, b.id]) := Lib.hid hlit
      have HS' := Lib.hid (HS.out.trans (hb1.mono HS.out.size))
      have HP1 := Lib.hid (HP0.out.below hb1)
      clear HS HP0
      have HS := HS'
      clear HS'
      refine hK _ _ HS.out ?_
      clear hK K hlit hb1
      try simp only [Act.put, List.setIfInBounds_toArray, List.set_cons_succ, List.set_cons_zero]
      generalize w3.alloc (.cells #[.int .u8 2, .int .u8 b.id] 5) = wD at *
      refine oneH 9 (by kernel_rfl) rfl rfl fun K hK => ?_
      refine app_W _ _ (some 21) rfl rfl HL1.out HS.out.size HP1.out (by simp [le_length]) rfl rfl ?_
      intro sv' w' hO hB'
      have HSF := Lib.hid (HS.out.trans hB')
      have HOF := Lib.hid hO
      refine hK _ _ HSF.out ?_
      clear hK K hO hB'
      try simp only [Act.put, List.setIfInBounds_toArray, List.set_cons_succ, List.set_cons_zero]
      refine takeH 10 (some 6) sv' rfl rfl (by kernel_rfl) (by kernel_rfl) (by kernel_rfl) (fun _ _ _ h => h) rfl (fun wq hS => by go_simp) HSF.out ?_
      try simp only [Act.put, List.setIfInBounds_toArray, List.set_cons_succ, List.set_cons_zero]
      refine wpAnyH_done (by kernel_rfl) ?_ _
      go_wp2_with fail
      go_meet
      exact ⟨_, rfl, HOF.out, HSF.out⟩
  case rest =>
  obtain ⟨s6, rfl, hO3, hB3⟩ := hcut
  have HO3 := Lib.hid hO3
  have H3 := Lib.hid (H1.out.below hB3)
  have HBS := Lib.hid hB3.size
  have HB3 := Lib.hid hB3
  clear hO3 hB3
  have c0 := H3.out.bat.c0
  rw [HK.out] at c0
  go_upto_region 8 with fail
  go_cut [6] from 32 to 45 (fun s7 wx => ∃ o, o = s7 ∧ Own wx w1.heap.size o (([2, b.id] ++ le 4 n) ++ [b.off, (b.bytes.length : Int)] ++ b.bytes) ∧ Below w1.heap.size w1 wx)
  case first =>
    refine startH (fun wq => Below w1.heap.size w1 wq) (by kernel_rfl) ?_
    have HS : Hid (Below w1.heap.size w1 wc.drew) := Lib.hid HB3.out.drew
    have HO3d : Hid (Own wc.drew w1.heap.size s6 ([2, b.id] ++ le 4 n)) := Lib.hid HO3.out
    generalize wc.drew = wS at *
    refine takeH 0 (some 32) (s6) rfl rfl (by kernel_rfl) (by kernel_rfl) (by kernel_rfl) (fun _ _ _ h => h) rfl (fun wq hS => by go_simp) HS.out ?_
    try simp only [Act.put, List.setIfInBounds_toArray, List.set_cons_succ, List.set_cons_zero]
    refine takeH 1 (some 33) (.pointer (some ⟨g, 34, none⟩)) rfl rfl (by kernel_rfl) (by kernel_rfl) (by kernel_rfl) (fun _ _ _ h => h) rfl (fun wq hS => by go_simp) HS.out ?_
    try simp only [Act.put, List.setIfInBounds_toArray, List.set_cons_succ, List.set_cons_zero]
    refine takeH 2 (some 34) (.int .i64 b.off) rfl rfl (by kernel_rfl) (by kernel_rfl) (by kernel_rfl) (fun _ _ _ h => h) rfl (fun wq hS => by have hq := (H1.out.bat.below hS H1.out.bat.lt).c34; go_simp) HS.out ?_
    try simp only [Act.put, List.setIfInBounds_toArray, List.set_cons_succ, List.set_cons_zero]
    refine takeH 3 (some 35) (.int .u8 b.off) rfl rfl (by kernel_rfl) (by kernel_rfl) (by kernel_rfl) (fun _ _ _ h => h) rfl (fun wq hS => by go_simp; exact wrap8 (by omega) (by omega)) HS.out ?_
    try simp only [Act.put, List.setIfInBounds_toArray, List.set_cons_succ, List.set_cons_zero]
    refine takeH 4 (some 36) (.pointer (some ⟨g, 35, none⟩)) rfl rfl (by kernel_rfl) (by kernel_rfl) (by kernel_rfl) (fun _ _ _ h => h) rfl (fun wq hS => by go_simp) HS.out ?_
    try simp only [Act.put, List.setIfInBounds_toArray, List.set_cons_succ, List.set_cons_zero]
    refine takeH 5 (some 37) (.slice (some ⟨p, q, none⟩) b.bytes.length cap) rfl rfl (by kernel_rfl) (by kernel_rfl) (by kernel_rfl) (fun _ _ _ h => h) rfl (fun wq hS => by have hq := ((H1.out.bat.below hS H1.out.bat.lt).c35).trans (congrArg some HSV.out); go_simp) HS.out ?_
    try simp only [Act.put, List.setIfInBounds_toArray, List.set_cons_succ, List.set_cons_zero]
    refine takeH 6 (some 38) (.int .i64 (b.bytes.length : Int)) rfl rfl (by kernel_rfl) (by kernel_rfl) (by kernel_rfl) (fun _ _ _ h => h) rfl (fun wq hS => by go_simp) HS.out ?_
    try simp only [Act.put, List.setIfInBounds_toArray, List.set_cons_succ, List.set_cons_zero]
    refine takeH 7 (some 39) (.int .u8 (b.bytes.length : Int)) rfl rfl (by kernel_rfl) (by kernel_rfl) (by kernel_rfl) (fun _ _ _ h => h) rfl (fun wq hS => by go_simp; exact wrap8 (by omega) (by omega)) HS.out ?_
    try simp only [Act.put, List.setIfInBounds_toArray, List.set_cons_succ, List.set_cons_zero]
    refine takeH 10 (some 42) (.pointer (some ⟨g, 35, none⟩)) rfl rfl (by kernel_rfl) (by kernel_rfl) (by kernel_rfl) (fun _ _ _ h => h) rfl (fun wq hS => by go_simp) HS.out ?_
    try simp only [Act.put, List.setIfInBounds_toArray, List.set_cons_succ, List.set_cons_zero]
    refine takeH 11 (some 43) (.slice (some ⟨p, q, none⟩) b.bytes.length cap) rfl rfl (by kernel_rfl) (by kernel_rfl) (by kernel_rfl) (fun _ _ _ h => h) rfl (fun wq hS => by have hq := ((H1.out.bat.below hS H1.out.bat.lt).c35).trans (congrArg some HSV.out); go_simp) HS.out ?_
    try simp only [Act.put, List.setIfInBounds_toArray, List.set_cons_succ, List.set_cons_zero]
    refine oneH 8 (by kernel_rfl) rfl rfl fun K hK => ?_
    refine wp_runTo (some 40) rfl (.slice (some ⟨wS.heap.size, 0, none⟩) 2 2) (wS.alloc (.cells #[.int .u8 b.off, .int .u8 (b.bytes.length : Int)] 5)) (by go_simp) ?_
    have hb1 := (Below.refl wS.heap.size wS).alloc (Nat.le_refl _) (.cells #[.int .u8 b.off, .int .u8 (b.bytes.length : Int)] 5)
    have hlit := Own.lit wS w1.heap.size HS.out.size [b.off, (b.bytes.length : Int)] (by simp) _ rfl
    have HS' := Lib.hid (HS.out.trans (hb1.mono HS.out.size))
    have HO3' := Lib.hid (HO3d.out.below hb1)
    generalize (Value.slice (some ⟨wS.heap.size, 0, none⟩) 2 2) = lv at *
    have HL1 : Hid (BytesAt (wS.alloc (.cells #[.int .u8 b.off, .int .u8 (b.bytes.length : Int)] 5)) lv [b.off, (b.bytes.length : Int)]) := Lib.hid hlit.bytes
    clear hlit hb1
    refine hK _ _ HS'.out ?_
    clear hK K HS HO3d
    try simp only [Act.put, List.setIfInBounds_toArray, List.set_cons_succ, List.set_cons_zero]
    generalize wS.alloc (.cells #[.int .u8 b.off, .int .u8 (b.bytes.length : Int)] 5) = wD at *
    refine oneH 9 (by kernel_rfl) rfl rfl fun K hK => ?_
    refine app_W _ _ (some 41) rfl rfl HO3'.out HS'.out.size HL1.out (by simp [le_length]) rfl rfl ?_
    intro s8 w8 hO8 hB8
    have HS8 := Lib.hid (HS'.out.trans hB8)
    have HO8 := Lib.hid hO8
    refine hK _ _ HS8.out ?_
    clear hK K hO8 hB8 HO3' HS' HL1
    try simp only [Act.put, List.setIfInBounds_toArray, List.set_cons_succ, List.set_cons_zero]
    have HYB := Lib.hid (show BytesAt w8 (.slice (some ⟨p, q, none⟩) b.bytes.length cap) b.bytes from by
      rw [← HSV.out]
      exact (HBY.out.below (H1.out.bel)).below HS8.out)
    refine oneH 12 (by kernel_rfl) rfl rfl fun K hK => ?_
    refine app_W _ _ (some 44) rfl rfl HO8.out HS8.out.size HYB.out (by simp [le_length]; omega) rfl rfl ?_
    intro s9 w9 hO9 hB9
    have HS9 := Lib.hid (HS8.out.trans hB9)
    have HO9 := Lib.hid hO9
    refine hK _ _ HS9.out ?_
    clear hK K hO9 hB9 HO8 HS8 HYB
    try simp only [Act.put, List.setIfInBounds_toArray, List.set_cons_succ, List.set_cons_zero]
    refine takeH 13 (some 6) (s9) rfl rfl (by kernel_rfl) (by kernel_rfl) (by kernel_rfl) (fun _ _ _ h => h) rfl (fun wq hS => by go_simp) HS9.out ?_
    try simp only [Act.put, List.setIfInBounds_toArray, List.set_cons_succ, List.set_cons_zero]
    refine wpAnyH_done (by kernel_rfl) ?_ _
    go_wp2_with fail
    go_meet
    exact ⟨_, rfl, HO9.out, HS9.out⟩
  case rest =>
  clear HO3 H3 HBS HB3 c0
  obtain ⟨s7, rfl, hO3, hB3⟩ := hcut
  have HO4 := Lib.hid hO3
  have HB4 := Lib.hid hB3
  clear hO3 hB3
  go_upto_region 9 with fail
  refine startH (fun wq => Below w1.heap.size w1 wq) (by kernel_rfl) ?_
  have HS : Hid (Below w1.heap.size w1 wc.drew) := Lib.hid HB4.out.drew
  have HO4d : Hid (Own wc.drew w1.heap.size s7 (([2, b.id] ++ le 4 n) ++ [b.off, (b.bytes.length : Int)] ++ b.bytes)) := Lib.hid HO4.out
  generalize wc.drew = wS at *
  refine takeH 0 (some 45) (s7) rfl rfl (by kernel_rfl) (by kernel_rfl) (by kernel_rfl) (fun _ _ _ h => h) rfl (fun wq hS => by go_simp) HS.out ?_
  try simp only [Act.put, List.setIfInBounds_toArray, List.set_cons_succ, List.set_cons_zero]
  refine takeH 1 (some 46) (.pointer (some ⟨g, 35, none⟩)) rfl rfl (by kernel_rfl) (by kernel_rfl) (by kernel_rfl) (fun _ _ _ h => h) rfl (fun wq hS => by go_simp) HS.out ?_
  try simp only [Act.put, List.setIfInBounds_toArray, List.set_cons_succ, List.set_cons_zero]
  refine takeH 2 (some 47) (.slice (some ⟨p, q, none⟩) b.bytes.length cap) rfl rfl (by kernel_rfl) (by kernel_rfl) (by kernel_rfl) (fun _ _ _ h => h) rfl (fun wq hS => by have hq := ((H1.out.bat.below hS H1.out.bat.lt).c35).trans (congrArg some HSV.out); go_simp) HS.out ?_
  try simp only [Act.put, List.setIfInBounds_toArray, List.set_cons_succ, List.set_cons_zero]
  refine takeH 3 (some 48) (.int .i64 (b.bytes.length : Int)) rfl rfl (by kernel_rfl) (by kernel_rfl) (by kernel_rfl) (fun _ _ _ h => h) rfl (fun wq hS => by go_simp) HS.out ?_
  try simp only [Act.put, List.setIfInBounds_toArray, List.set_cons_succ, List.set_cons_zero]
  refine takeH 4 (some 49) (.int .i64 ((16 - b.bytes.length : Nat) : Int)) rfl rfl (by kernel_rfl) (by kernel_rfl) (by kernel_rfl) (fun _ _ _ h => h) rfl (fun wq hS => by go_simp; rw [wrap64 (by omega) (by omega)]; omega) HS.out ?_
  try simp only [Act.put, List.setIfInBounds_toArray, List.set_cons_succ, List.set_cons_zero]
  refine takeH 6 (some 51) (.pointer (some ⟨g, 36, none⟩)) rfl rfl (by kernel_rfl) (by kernel_rfl) (by kernel_rfl) (fun _ _ _ h => h) rfl (fun wq hS => by go_simp) HS.out ?_
  try simp only [Act.put, List.setIfInBounds_toArray, List.set_cons_succ, List.set_cons_zero]
  refine takeH 7 (some 52) (.int .i64 b.prev) rfl rfl (by kernel_rfl) (by kernel_rfl) (by kernel_rfl) (fun _ _ _ h => h) rfl (fun wq hS => by have hq := (H1.out.bat.below hS H1.out.bat.lt).c36; go_simp) HS.out ?_
  try simp only [Act.put, List.setIfInBounds_toArray, List.set_cons_succ, List.set_cons_zero]
  refine takeH 8 (some 53) (.int .u32 b.prev) rfl rfl (by kernel_rfl) (by kernel_rfl) (by kernel_rfl) (fun _ _ _ h => h) rfl (fun wq hS => by go_simp; exact wrap32 (by omega) (by omega)) HS.out ?_
  try simp only [Act.put, List.setIfInBounds_toArray, List.set_cons_succ, List.set_cons_zero]
  refine oneH 5 (by kernel_rfl) rfl rfl fun K hK => ?_
  refine zeros_W _ _ (some 50) rfl rfl HO4d.out (by simp) HS.out.size (by simp [le_length]; omega) rfl rfl ?_
  intro s8 w8 hO8 hB8
  have HS8 := Lib.hid (HS.out.trans hB8)
  have HO8 := Lib.hid hO8
  refine hK _ _ HS8.out ?_
  clear hK K hB8 hO8
  try simp only [Act.put, List.setIfInBounds_toArray, List.set_cons_succ, List.set_cons_zero]
  refine oneH 9 (by kernel_rfl) rfl rfl fun K hK => ?_
  go_simp
  refine (rput2_any b.prev ⟨by omega, by omega⟩ w8).mono ?_
  rintro e w3 ⟨pv, rfl, hpo, hpb⟩
  have HP1 := Lib.hid hpo.bytes
  have HO8' := Lib.hid (HO8.out.below hpb)
  have HS8' := Lib.hid (HS8.out.trans (hpb.mono HS8.out.size))
  clear HO8 HS8 hpo hpb
  have HO8 := HO8'
  have HS8 := HS8'
  refine hK _ _ HS8.out ?_
  clear hK K
  try simp only [Act.put, List.setIfInBounds_toArray, List.set_cons_succ, List.set_cons_zero]
  refine oneH 10 (by kernel_rfl) rfl rfl fun K hK => ?_
  refine app_W _ _ (some 55) rfl rfl HO8.out HS8.out.size HP1.out (by simp [le_length, zeros_length]; omega) rfl rfl ?_
  intro s9 w9 hO9 hB9
  have HS9 := Lib.hid (HS8.out.trans hB9)
  have HO9 := Lib.hid hO9
  refine hK _ _ HS9.out ?_
  clear hK K hO9 hB9
  try simp only [Act.put, List.setIfInBounds_toArray, List.set_cons_succ, List.set_cons_zero]
  refine takeH 11 (some 6) (s9) rfl rfl (by kernel_rfl) (by kernel_rfl) (by kernel_rfl) (fun _ _ _ h => h) rfl (fun wq hS => by go_simp) HS9.out ?_
  try simp only [Act.put, List.setIfInBounds_toArray, List.set_cons_succ, List.set_cons_zero]
  refine wpAnyH_done (by kernel_rfl) ?_ _
  have H5 := Lib.hid (H1.out.below HS9.out)
  repeat (first | (with_reducible refine stopR (id := 15) ?_) | go_values | go_skip | go_guarded | go_step | go_upon | go_back)
  refine Stop.mk (wp_region_lit ?_)
  refine takeL s9 rfl (by go_simp) ?_
  try simp only [Act.put, List.setIfInBounds_toArray, List.set_cons_succ, List.set_cons_zero]
  refine wpList_op rfl fun K hK => ?_
  go_simp
  refine (rsector_any s9 _ (by rw [HLL.out.1]; decide) (by rw [HLL.out.1]; decide) _ HO9.out.bytes).mono ?_
  rintro e w8 ⟨rfl, hb⟩
  rw [HLL.out.2]
  refine hK _ _ ?_
  clear hK K
  try simp only [Act.put, List.setIfInBounds_toArray, List.set_cons_succ, List.set_cons_zero]
  have HE8 := Lib.hid (H5.out.below hb)
  clear hb
  refine store_all (cs := (u8s (b.enc n)).toArray) HE8.out.res (by rw [u8s_size, HL.out]; simp [zeros]) (by rw [u8s_size, HL.out]; exact info50) (u8s_one _) rfl rfl rfl ?_
  intro wZ hZ hOZ hlZ
  try simp only [Act.put, List.setIfInBounds_toArray, List.set_cons_succ, List.set_cons_zero]
  refine takeL (.int .i64 0) rfl (by go_simp) ?_
  try simp only [Act.put, List.setIfInBounds_toArray, List.set_cons_succ, List.set_cons_zero]
  have HF := Lib.hid (HE8.out.bel.trans (hOZ.below HE8.out.bel.size (fun k hk => by have := HE8.out.g0; have := HE8.out.gr; omega)))
  refine wpList_nil ?_
  go_wp2_with fail
  refine bodyPost_ret (v := .tuple #[.agg (u8s (b.enc n)).toArray, .int .i64 0]) (results_cell_tmp rfl _ _ r 0 _ _ _ rfl rfl Try.underlying50 rfl (by rw [u8s_size, HL.out]; exact info50) ?_) rfl ⟨rfl, HF.out⟩
  exact Blk.all (cs := (u8s (b.enc n)).toArray) hZ rfl
set_option maxHeartbeats 2000000 in
set_option maxRecDepth 100000 in
theorem rencode_map (b : Bk) (sv : Value) (n : Int) (w : World) (hs : BytesAt w sv b.bytes) (hw : b.Wf) (hg : b.good = true) (hk : b.kind = 3) (hn : 0 ≤ n ∧ n < 4294967296) : Calls Try.prog 26 #[.agg (b.arr sv), .int .u32 n] w fun e w' => e = .returned (.tuple #[.agg (u8s (b.enc n)).toArray, .int .i64 0]) ∧ Below w.heap.size w w' := by
  have HSZ := Lib.hid (b.arr_size hw sv)
  have HW := Lib.hid hw
  have HG := Lib.hid fun w => rgood_any b sv hs.len hw w
  rw [hg] at HG
  obtain ⟨hn1, hn2⟩ := hn
  obtain ⟨_, hi1, hi2⟩ := good_kind hg
  have HK := Lib.hid hk
  have HL := Lib.hid (enc_length hg hw n)
  have HLL := Lib.hid (rsec3 hw hk n)
  obtain ⟨hhs, _⟩ := good3 hg hk
  have HHS := Lib.hid hhs
  clear hhs
  clear hg hk hw
  go_enter Try.func26, Try.ntmps26
  repeat (first | (with_reducible refine stopR (id := 0) ?_) | go_values | go_skip | go_guarded | go_step | go_upon | go_back)
  refine Stop.mk (wp_region_lit ?_)
  refine box_g rfl rfl ?_
  intro wA hA hB hl
  try simp only [Act.put, List.setIfInBounds_toArray, List.set_cons_succ, List.set_cons_zero]
  refine alloc_g zero50 rfl ?_
  intro wB hR hB2 hl2
  try simp only [Act.put, List.setIfInBounds_toArray, List.set_cons_succ, List.set_cons_zero]
  refine takeL (.int .i64 0) rfl (by go_simp) ?_
  try simp only [Act.put, List.setIfInBounds_toArray, List.set_cons_succ, List.set_cons_zero]
  have H0 : Hid (ES w wB w.heap.size wA.heap.size b sv) := Lib.hid ⟨⟨hA.below hB2 hl, HW.out⟩, hR, hB.trans (hB2.mono hB.size), Nat.le_refl _, hl⟩
  clear hA hB hl hR hB2 hl2
  generalize hgg : w.heap.size = g at *
  generalize hrr : wA.heap.size = r at *
  have HGG := Lib.hid hgg
  clear hgg hrr wA
  refine wpList_nil ?_
  repeat (first | (with_reducible refine stopR (id := 1) ?_) | go_values | go_skip | go_guarded | go_step | go_upon | go_back)
  refine Stop.mk (wp_region_lit ?_)
  refine load57 H0.out.bat.all HSZ.out rfl rfl ?_
  try simp only [Act.put, List.setIfInBounds_toArray, List.set_cons_succ, List.set_cons_zero]
  refine wpList_op rfl fun K hK => ?_
  go_simp
  refine (HG.out _).mono ?_
  rintro e w1 ⟨rfl, hb⟩
  refine hK _ _ ?_
  clear hK K
  try simp only [Act.put, List.setIfInBounds_toArray, List.set_cons_succ, List.set_cons_zero]
  have H1 := Lib.hid (H0.out.below hb)
  clear hb H0
  refine takeL (.bool false) rfl (by go_simp) ?_
  try simp only [Act.put, List.setIfInBounds_toArray, List.set_cons_succ, List.set_cons_zero]
  refine wpList_nil ?_
  go_upto_region 3 with fail
  go_cut [6] from 12 to 22 (fun s6 wx => ∃ o, o = s6 ∧ Own wx w1.heap.size o ([3, b.id] ++ le 4 n) ∧ Below w1.heap.size w1 wx)
  case first =>
    have HC0 := Lib.hid (fun (wq : World) (hS : Below w1.heap.size w1 wq) => show wq.cell? ⟨g, 0, none⟩ = some (.int .i64 3) from by
      have hq := (H1.out.bat.below hS H1.out.bat.lt).c0
      rwa [HK.out] at hq)
    refine startH (fun wq => Below w1.heap.size w1 wq) (by kernel_rfl) ?_
    have HS : Hid (Below w1.heap.size w1 w1.drew) := Lib.hid (Below.refl _ _).drew
    generalize w1.drew = wS at *
    refine takeH 0 (some 12) (.pointer (some ⟨g, 0, none⟩)) rfl rfl (by kernel_rfl) (by kernel_rfl) (by kernel_rfl) (fun _ _ _ h => h) rfl (fun wq hS => by go_simp) HS.out ?_
    try simp only [Act.put, List.setIfInBounds_toArray, List.set_cons_succ, List.set_cons_zero]
    refine takeH 1 (some 13) (.int .i64 3) rfl rfl (by kernel_rfl) (by kernel_rfl) (by kernel_rfl) (fun _ _ _ h => h) rfl (fun wq hS => by have hq := HC0.out wq hS; go_simp) HS.out ?_
    try simp only [Act.put, List.setIfInBounds_toArray, List.set_cons_succ, List.set_cons_zero]
    refine takeH 2 (some 14) (.int .u8 3) rfl rfl (by kernel_rfl) (by kernel_rfl) (by kernel_rfl) (fun _ _ _ h => h) rfl (fun wq hS => by go_simp; rfl) HS.out ?_
    try simp only [Act.put, List.setIfInBounds_toArray, List.set_cons_succ, List.set_cons_zero]
    refine takeH 3 (some 15) (.pointer (some ⟨g, 1, none⟩)) rfl rfl (by kernel_rfl) (by kernel_rfl) (by kernel_rfl) (fun _ _ _ h => h) rfl (fun wq hS => by go_simp) HS.out ?_
    try simp only [Act.put, List.setIfInBounds_toArray, List.set_cons_succ, List.set_cons_zero]
    refine takeH 4 (some 16) (.int .i64 b.id) rfl rfl (by kernel_rfl) (by kernel_rfl) (by kernel_rfl) (fun _ _ _ h => h) rfl (fun wq hS => by have hq := (H1.out.bat.below hS H1.out.bat.lt).c1; go_simp) HS.out ?_
    try simp only [Act.put, List.setIfInBounds_toArray, List.set_cons_succ, List.set_cons_zero]
    refine takeH 5 (some 17) (.int .u8 b.id) rfl rfl (by kernel_rfl) (by kernel_rfl) (by kernel_rfl) (fun _ _ _ h => h) rfl (fun wq hS => by go_simp; exact wrap8 (by omega) (by omega)) HS.out ?_
    try simp only [Act.put, List.setIfInBounds_toArray, List.set_cons_succ, List.set_cons_zero]
    refine takeH 7 (some 19) (.int .u32 n) rfl rfl (by kernel_rfl) (by kernel_rfl) (by kernel_rfl) (fun _ _ _ h => h) rfl (fun wq hS => by go_simp) HS.out ?_
    try simp only [Act.put, List.setIfInBounds_toArray, List.set_cons_succ, List.set_cons_zero]
    refine twoH 6 8 (by kernel_rfl) rfl rfl rfl rfl (fun K hK => ?_) (fun K hK => ?_)
    · refine wp_runTo (some 18) rfl (.slice (some ⟨wS.heap.size, 0, none⟩) 2 2) (wS.alloc (.cells #[.int .u8 3, .int .u8 b.id] 5)) (by go_simp) ?_
      have hb1 := (Below.refl wS.heap.size wS).alloc (Nat.le_refl _) (.cells #[.int .u8 3, .int .u8 b.id] 5)
      have hlit := Own.lit wS w1.heap.size HS.out.size [3, b.id] (by simp) _ rfl
      generalize (Value.slice (some ⟨wS.heap.size, 0, none⟩) 2 2) = lv at *
      have HL1 : Hid (Own (wS.alloc (.cells #[.int .u8 3, .int .u8 b.id] 5)) w1.heap.size lv [3, b.id]) := Lib.hid hlit
      have HS' := Lib.hid (HS.out.trans (hb1.mono HS.out.size))
      have HQ0 := Lib.hid (HS.out)
      clear HS
      have HS := HS'
      clear HS'
      refine hK _ _ HS.out ?_
      clear hK K hlit
      try simp only [Act.put, List.setIfInBounds_toArray, List.set_cons_succ, List.set_cons_zero]
      generalize wS.alloc (.cells #[.int .u8 3, .int .u8 b.id] 5) = wD at *
      refine oneH 8 (by kernel_rfl) rfl rfl fun K hK => ?_
      go_simp
      refine (rput4_any n ⟨hn1, hn2⟩ wD).mono ?_
      rintro e w3 ⟨pv, rfl, hpo, hpb⟩
      have HP1 := Lib.hid hpo.bytes
      have HL2 := Lib.hid (HL1.out.below hpb)
      have HS2 := Lib.hid (HS.out.trans (hpb.mono HS.out.size))
      clear HL1 HS hpo hpb hb1
      have HL1 := HL2
      have HS := HS2
      clear HL2 HS2
      refine hK _ _ HS.out ?_
      clear hK K
      try simp only [Act.put, List.setIfInBounds_toArray, List.set_cons_succ, List.set_cons_zero]
      refine oneH 9 (by kernel_rfl) rfl rfl fun K hK => ?_
      refine app_W _ _ (some 21) rfl rfl HL1.out HS.out.size HP1.out (by simp [le_length]) rfl rfl ?_
      intro sv' w' hO hB'
      have HSF := Lib.hid (HS.out.trans hB')
      have HOF := Lib.hid hO
      refine hK _ _ HSF.out ?_
      clear hK K hO hB'
      try simp only [Act.put, List.setIfInBounds_toArray, List.set_cons_succ, List.set_cons_zero]
      refine takeH 10 (some 6) sv' rfl rfl (by kernel_rfl) (by kernel_rfl) (by kernel_rfl) (fun _ _ _ h => h) rfl (fun wq hS => by go_simp) HSF.out ?_
      try simp only [Act.put, List.setIfInBounds_toArray, List.set_cons_succ, List.set_cons_zero]
      refine wpAnyH_done (by kernel_rfl) ?_ _
      go_wp2_with fail
      go_meet
      exact ⟨_, rfl, HOF.out, HSF.out⟩
    · go_simp
      refine (rput4_any n ⟨hn1, hn2⟩ wS).mono ?_
      rintro e w3 ⟨pv, rfl, hpo, hpb⟩
      have HP0 := Lib.hid hpo.bytes
      have HS2 := Lib.hid (HS.out.trans (hpb.mono HS.out.size))
      clear HS hpo hpb
      have HS := HS2
      clear HS2
      refine hK _ _ HS.out ?_
      clear hK K
      try simp only [Act.put, List.setIfInBounds_toArray, List.set_cons_succ, List.set_cons_zero]
      refine oneH 6 (by kernel_rfl) rfl rfl fun K hK => ?_
      refine wp_runTo (some 18) rfl (.slice (some ⟨w3.heap.size, 0, none⟩) 2 2) (w3.alloc (.cells #[.int .u8 3, .int .u8 b.id] 5)) (by go_simp) ?_
      have hb1 := (Below.refl w3.heap.size w3).alloc (Nat.le_refl _) (.cells #[.int .u8 3, .int .u8 b.id] 5)
      have hlit := Own.lit w3 w1.heap.size HS.out.size [3, b.id] (by simp) _ rfl
      generalize (Value.slice (some ⟨w3.heap.size, 0, none⟩) 2 2) = lv at *
      have HL1 : Hid (Own (w3.alloc (.cells #[.int .u8 3, .int .u8 b.id] 5)) w1.heap.size lv [3, b.id]) := Lib.hid hlit
      have HS' := Lib.hid (HS.out.trans (hb1.mono HS.out.size))
      have HP1 := Lib.hid (HP0.out.below hb1)
      clear HS HP0
      have HS := HS'
      clear HS'
      refine hK _ _ HS.out ?_
      clear hK K hlit hb1
      try simp only [Act.put, List.setIfInBounds_toArray, List.set_cons_succ, List.set_cons_zero]
      generalize w3.alloc (.cells #[.int .u8 3, .int .u8 b.id] 5) = wD at *
      refine oneH 9 (by kernel_rfl) rfl rfl fun K hK => ?_
      refine app_W _ _ (some 21) rfl rfl HL1.out HS.out.size HP1.out (by simp [le_length]) rfl rfl ?_
      intro sv' w' hO hB'
      have HSF := Lib.hid (HS.out.trans hB')
      have HOF := Lib.hid hO
      refine hK _ _ HSF.out ?_
      clear hK K hO hB'
      try simp only [Act.put, List.setIfInBounds_toArray, List.set_cons_succ, List.set_cons_zero]
      refine takeH 10 (some 6) sv' rfl rfl (by kernel_rfl) (by kernel_rfl) (by kernel_rfl) (fun _ _ _ h => h) rfl (fun wq hS => by go_simp) HSF.out ?_
      try simp only [Act.put, List.setIfInBounds_toArray, List.set_cons_succ, List.set_cons_zero]
      refine wpAnyH_done (by kernel_rfl) ?_ _
      go_wp2_with fail
      go_meet
      exact ⟨_, rfl, HOF.out, HSF.out⟩
  case rest =>
  obtain ⟨s6, rfl, hO3, hB3⟩ := hcut
  have HO3 := Lib.hid hO3
  have H3 := Lib.hid (H1.out.below hB3)
  have HBS := Lib.hid hB3.size
  have HB3 := Lib.hid hB3
  clear hO3 hB3
  have c0 := H3.out.bat.c0
  rw [HK.out] at c0
  go_wp2_with fail
  go_loopg [6, 7] 8 (fun q s i wr => ∃ k : Nat, 8 - k ≤ q ∧ k ≤ 8 ∧ i = .int .i64 k ∧ Own wr w1.heap.size s ([3, b.id] ++ le 4 n ++ (b.heads.take k).flatMap (le 2)) ∧ Below w1.heap.size w1 wr)
  case atStart => exact ⟨0, by omega, by omega, rfl, by rw [List.take_zero, List.flatMap_nil, List.append_nil]; exact HO3.out, HB3.out⟩
  case round =>
    obtain ⟨k, hg, hk, rfl, hown, hbel⟩ := hrel
    clear HO3 H3 HBS HB3 c0
    have HO := Lib.hid hown
    have HB := Lib.hid hbel
    clear hown hbel
    have hk0 : (0 : Int) ≤ (k : Int) := by omega
    by_cases hlt : k < 8
    · have hk8 : (k : Int) < 8 := by omega
      obtain ⟨x, hx⟩ : ∃ x, b.heads[k]? = some x := ⟨_, List.getElem?_eq_getElem (by rw [HW.out.heads]; exact hlt)⟩
      obtain ⟨hx1, hx2⟩ := HHS.out x (List.mem_of_getElem? hx)
      have HCX : Hid (wr.cell? ⟨g, 37 + k, none⟩ = some (.int .i64 x)) := Lib.hid ((H1.out.bat.below HB.out H1.out.bat.lt).blk.cell (by rw [b.atH HW.out sv k, List.getElem?_map, hx]; rfl))
      have HNX : Hid ([3, b.id] ++ le 4 n ++ (b.heads.take k).flatMap (le 2) ++ le 2 x = [3, b.id] ++ le 4 n ++ (b.heads.take (k + 1)).flatMap (le 2)) := Lib.hid (by
        rw [List.take_add_one, hx]
        simp)
      have HLK : Hid ((b.heads.take k).length ≤ 8) := Lib.hid (by simp; omega)
      clear hx
      repeat (first | (with_reducible refine stopR (id := 14) ?_) | go_values | go_skip | go_guarded | go_step | go_upon | go_back)
      refine Stop.mk (wp_region_lit ?_)
      refine takeL u6 rfl (by go_simp) ?_
      try simp only [Act.put, List.setIfInBounds_toArray, List.set_cons_succ, List.set_cons_zero]
      refine takeL (.int .i64 (k : Int)) rfl (by go_simp) ?_
      try simp only [Act.put, List.setIfInBounds_toArray, List.set_cons_succ, List.set_cons_zero]
      refine takeL (.pointer (some ⟨g, 37, none⟩)) rfl (by go_simp) ?_
      try simp only [Act.put, List.setIfInBounds_toArray, List.set_cons_succ, List.set_cons_zero]
      refine takeL (.pointer (some ⟨g, 37 + k, none⟩)) rfl (by go_simp) ?_
      try simp only [Act.put, List.setIfInBounds_toArray, List.set_cons_succ, List.set_cons_zero]
      refine takeL (.int .i64 x) rfl (by have hq := HCX.out; go_simp) ?_
      try simp only [Act.put, List.setIfInBounds_toArray, List.set_cons_succ, List.set_cons_zero]
      refine takeL (.int .u32 x) rfl (by go_simp; exact wrap32 (by omega) (by omega)) ?_
      try simp only [Act.put, List.setIfInBounds_toArray, List.set_cons_succ, List.set_cons_zero]
      refine wpList_op rfl fun K hK => ?_
      go_simp
      refine (rput2_any x ⟨by omega, by omega⟩ wr).mono ?_
      rintro e w3 ⟨pv, rfl, hpo, hpb⟩
      have HP1 := Lib.hid hpo.bytes
      have HO2 := Lib.hid (HO.out.below hpb)
      have HB2 := Lib.hid (HB.out.trans (hpb.mono HB.out.size))
      refine hK _ _ ?_
      clear hK K hpo hpb
      try simp only [Act.put, List.setIfInBounds_toArray, List.set_cons_succ, List.set_cons_zero]
      refine app_L HO2.out HB2.out.size HP1.out (by have := HLK.out; simp only [List.length_append, flat_length, le_length, List.length_cons, List.length_nil]; omega) rfl rfl rfl ?_
      intro s8 w8 hO8 hB8
      try simp only [Act.put, List.setIfInBounds_toArray, List.set_cons_succ, List.set_cons_zero]
      rw [HNX.out] at hO8
      have HO8 := Lib.hid hO8
      have HB8 := Lib.hid (HB2.out.trans hB8)
      clear hO8 hB8
      refine takeL s8 rfl (by go_simp) ?_
      try simp only [Act.put, List.setIfInBounds_toArray, List.set_cons_succ, List.set_cons_zero]
      refine wpList_nil ?_
      go_wp2_with fail
      go_roundg (8 - (k + 1))
      case measure => omega
      case rel => exact ⟨k + 1, by omega, by omega, by go_num, HO8.out, HB8.out⟩
    · have HO9 : Hid (Own wr w1.heap.size u6 ([3, b.id] ++ le 4 n ++ b.heads.flatMap (le 2))) := Lib.hid (by
        have := HO.out
        rwa [List.take_of_length_le (by rw [HW.out.heads]; omega)] at this)
      have H9 := Lib.hid (H1.out.below HB.out)
      have hk8 : k = 8 := by omega
      clear HO HB
      subst hk8
      repeat (first | (with_reducible refine stopR (id := 15) ?_) | go_values | go_skip | go_guarded | go_step | go_upon | go_back)
      refine Stop.mk (wp_region_lit ?_)
      refine takeL u6 rfl (by go_simp) ?_
      try simp only [Act.put, List.setIfInBounds_toArray, List.set_cons_succ, List.set_cons_zero]
      refine wpList_op rfl fun K hK => ?_
      go_simp
      refine (rsector_any u6 _ (by rw [HLL.out.1]; decide) (by rw [HLL.out.1]; decide) _ HO9.out.bytes).mono ?_
      rintro e w8 ⟨rfl, hb⟩
      rw [HLL.out.2]
      refine hK _ _ ?_
      clear hK K
      try simp only [Act.put, List.setIfInBounds_toArray, List.set_cons_succ, List.set_cons_zero]
      have HE8 := Lib.hid (H9.out.below hb)
      clear hb
      refine store_all (cs := (u8s (b.enc n)).toArray) HE8.out.res (by rw [u8s_size, HL.out]; simp [zeros]) (by rw [u8s_size, HL.out]; exact info50) (u8s_one _) rfl rfl rfl ?_
      intro wZ hZ hOZ hlZ
      try simp only [Act.put, List.setIfInBounds_toArray, List.set_cons_succ, List.set_cons_zero]
      refine takeL (.int .i64 0) rfl (by go_simp) ?_
      try simp only [Act.put, List.setIfInBounds_toArray, List.set_cons_succ, List.set_cons_zero]
      have HF := Lib.hid (HE8.out.bel.trans (hOZ.below HE8.out.bel.size (fun k hk => by have := HE8.out.g0; have := HE8.out.gr; omega)))
      refine wpList_nil ?_
      go_wp2_with fail
      refine bodyPost_ret (v := .tuple #[.agg (u8s (b.enc n)).toArray, .int .i64 0]) (results_cell_tmp rfl _ _ r 0 _ _ _ rfl rfl Try.underlying50 rfl (by rw [u8s_size, HL.out]; exact info50) ?_) rfl ⟨rfl, HF.out⟩
      exact Blk.all (cs := (u8s (b.enc n)).toArray) hZ rfl
theorem rencode_any (b : Bk) (sv : Value) (n : Int) (w : World) (hs : BytesAt w sv b.bytes) (hw : b.Wf) (hn : 0 ≤ n ∧ n < 4294967296) : Calls Try.prog 26 #[.agg (b.arr sv), .int .u32 n] w fun e w' => e = .returned (.tuple #[.agg (u8s (b.sec n)).toArray, .int .i64 b.err]) ∧ Below w.heap.size w w' := by
  unfold Bk.sec Bk.err
  cases hg : b.good
  · simp only [Bool.false_eq_true, if_false]
    exact rencode_no b sv n w hs hw hg
  · simp only [if_true]
    rcases (good_kind hg).1 with k | k | k
    · exact rencode_img b sv n w hs hw hg k hn
    · exact rencode_dlt b sv n w hs hw hg k hn
    · exact rencode_map b sv n w hs hw hg k hn
end Go.Proofs.Ytbhaifdhmfmeoaa
