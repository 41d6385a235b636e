/- The statements' own summary of a sector: its marks lie in new memory. -/
import Derived.Test.YtbhaifdhmfmeoaaSrdec
import Derived.Test.YtbhaifdhmfmeoaaRead
namespace Go.Proofs.Ytbhaifdhmfmeoaa
set_option linter.unusedSimpArgs false
set_option linter.unusedVariables false
open Go.RowKit

theorem OwnM.freshM {w : World} {B C : Nat} {sv : Value} {l : List Mk} (h : OwnM w B sv l) (hc : C ≤ B) : Fresh C sv := fun b o n c e => Nat.le_trans hc (h.lt b (by rw [e]; rfl)).1
set_option maxHeartbeats 1000000 in
set_option maxRecDepth 100000 in
theorem srdecode_fresh (x : List Int) (hx : Sc x) (w : World) : Calls Try.prog 25 #[.agg (u8s x).toArray] w fun e w' => ∃ sv, e = .returned (.agg #[.int .u32 (decS x).seq, .bool (decS x).more, sv, .int .i64 (sdecE x)]) ∧ MarksAt w' sv (decS x).marks ∧ Below w.heap.size w w' ∧ Fresh w.heap.size sv := by
  have HX := Lib.hid hx
  have HXL := Lib.hid hx.length
  obtain ⟨h60, h61⟩ := sc_byte hx 6
  obtain ⟨y6, hy6⟩ : ∃ n : Int, x.getD 6 0 = n := ⟨_, rfl⟩
  rw [hy6] at h60 h61
  obtain ⟨n, hn⟩ : ∃ n : Nat, min 24 y6.toNat = n := ⟨_, rfl⟩
  have HN6 := Lib.hid hy6
  have HNN := Lib.hid hn
  have hn24 : n ≤ 24 := by omega
  obtain ⟨y, hy⟩ : ∃ y, x.getD 1 0 = y := ⟨_, rfl⟩
  have HY := Lib.hid hy
  clear hx hy6 hn hy
  go_enter Try.func25, Try.ntmps25
  go_upto_region 0 with fail
  refine wp_region_lit ?_
  refine box_g rfl rfl ?_
  intro wA hA hB hl1
  try simp only [Act.put, List.setIfInBounds_toArray, List.set_cons_succ, List.set_cons_zero]
  refine alloc_g zero63 rfl ?_
  intro wB hR hB2 hl2
  try simp only [Act.put, List.setIfInBounds_toArray, List.set_cons_succ, List.set_cons_zero]
  have HA := Lib.hid (hA.below hB2 hl1)
  have HR := Lib.hid hR
  have HB := Lib.hid (hB.trans (hB2.mono hB.size))
  have HLT : Hid (w.heap.size < wA.heap.size ∧ wA.heap.size < wB.heap.size) := Lib.hid ⟨hl1, hl2⟩
  clear hA hB hl1 hR hB2 hl2
  generalize hrr : wA.heap.size = r at *
  clear hrr wA
  refine wpList_nil ?_
  go_upto_region 1 with fail
  go_cut [3] from 7 to 13 (fun s3 wx => ∃ t B, s3 = .pointer (some ⟨t, 0, none⟩) ∧ RD w wx B w.heap.size r t x (sseqOf x) (y == 1) (.slice none 0 0))
  case first =>
    have HRD := Lib.hid (fun (t : Nat) (w' : World) (hb : Below wB.heap.size wB w') (h1 : Blk w' t [.int .u32 (sseqOf x), .bool (y == 1), .slice none 0 0, .int .i64 0]) (ht : wB.heap.size ≤ t) =>
      show RD w w' w'.heap.size w.heap.size r t x (sseqOf x) (y == 1) (.slice none 0 0) from ⟨HA.out.below hb HA.out.lt, HR.out.below hb HR.out.lt, h1, HB.out.trans (hb.mono HB.out.size), Nat.le_refl _, HLT.out.1, by have := HLT.out.2; omega, h1.lt, Nat.le_refl _⟩)
    have HC1 := Lib.hid (fun wq (hS : Below wB.heap.size wB wq) => show wq.cell? ⟨w.heap.size, 1, none⟩ = some (.int .u8 y) from by rw [← HY.out]; exact (HA.out.below hS HA.out.lt).cell (sc_cell HX.out (by decide)))
    have HNU := Lib.hid (fun wq (hS : Below wB.heap.size wB wq) => rnum4_any wq w.heap.size 2 62 _ (sc_seq HX.out).1 (sc_seq HX.out).2 (fun i z hz => sc_seq_at (HA.out.below hS HA.out.lt) i z hz))
    refine startH (fun wq => Below wB.heap.size wB wq) (by kernel_rfl) ?_
    have HS := Lib.hid (Below.refl wB.heap.size wB).drew
    generalize wB.drew = wS at *
    refine takeH 0 (some 7) (.slice (some ⟨w.heap.size, 2, none⟩) 4 62) rfl rfl (by kernel_rfl) (by kernel_rfl) (by kernel_rfl) (fun _ _ _ h => h) rfl (fun wq hS => by go_simp) HS.out ?_
    try simp only [Act.put, List.setIfInBounds_toArray, List.set_cons_succ, List.set_cons_zero]
    refine takeH 2 (some 9) (.pointer (some ⟨w.heap.size, 1, none⟩)) rfl rfl (by kernel_rfl) (by kernel_rfl) (by kernel_rfl) (fun _ _ _ h => h) rfl (fun wq hS => by go_simp) HS.out ?_
    try simp only [Act.put, List.setIfInBounds_toArray, List.set_cons_succ, List.set_cons_zero]
    refine takeH 3 (some 10) (.int .u8 y) rfl rfl (by kernel_rfl) (by kernel_rfl) (by kernel_rfl) (fun _ _ _ h => h) rfl (fun wq hS => by have hq := HC1.out wq hS; go_simp) HS.out ?_
    try simp only [Act.put, List.setIfInBounds_toArray, List.set_cons_succ, List.set_cons_zero]
    refine takeH 4 (some 11) (.bool (y == 1)) rfl rfl (by kernel_rfl) (by kernel_rfl) (by kernel_rfl) (fun _ _ _ h => h) rfl (fun wq hS => by go_simp) HS.out ?_
    try simp only [Act.put, List.setIfInBounds_toArray, List.set_cons_succ, List.set_cons_zero]
    refine twoH 1 6 (by kernel_rfl) rfl rfl rfl rfl (fun K hK => ?_) (fun K hK => ?_)
    · go_simp
      refine (HNU.out _ HS.out).mono ?_
      rintro e w9 ⟨rfl, rfl⟩
      rw [show num ((x.drop 2).take 4) = sseqOf x from rfl]
      refine hK _ _ HS.out ?_
      clear hK K
      try simp only [Act.put, List.setIfInBounds_toArray, List.set_cons_succ, List.set_cons_zero]
      refine takeH 5 (some 12) (.agg #[.int .u32 (sseqOf x), .bool (y == 1), .slice none 0 0, .int .i64 0]) rfl rfl (by kernel_rfl) (by kernel_rfl) (by kernel_rfl) (fun _ _ _ h => h) rfl (fun wq hS => by exact exec_build _ _ _ _ 63 _ rfl #[(0, .int .u32 (sseqOf x)), (1, .bool (y == 1))] (by simp only [List.map_toArray, List.map_cons, List.map_nil]; rfl) _ (run_build _ 63 _ _ (built63n _ _))) HS.out ?_
      try simp only [Act.put, List.setIfInBounds_toArray, List.set_cons_succ, List.set_cons_zero]
      refine oneH 6 (by kernel_rfl) rfl rfl fun K hK => ?_
      refine wp_runTo (some 3) rfl _ _ (exec_alloc _ _ _ 63 rfl _ zero63) ?_
      have hT := Blk.new wS #[.int .u32 0, .bool false, .slice none 0 0, .int .i64 0] 63
      have hBT := (Below.refl wS.heap.size wS).alloc (Nat.le_refl _) (.cells #[.int .u32 0, .bool false, .slice none 0 0, .int .i64 0] 63)
      have HS2 := Lib.hid (HS.out.trans (hBT.mono HS.out.size))
      have HT := Lib.hid hT
      have HTB := Lib.hid HS.out.size
      refine hK _ _ HS2.out ?_
      clear hK K hBT hT
      try simp only [Act.put, List.setIfInBounds_toArray, List.set_cons_succ, List.set_cons_zero]
      generalize wS.alloc (.cells #[.int .u32 0, .bool false, .slice none 0 0, .int .i64 0] 63) = wD at *
      generalize wS.heap.size = t at *
      refine oneH 7 (by kernel_rfl) rfl rfl fun K hK => ?_
      refine wp_store_at 63 _ _ rfl t 0 #[.int .u32 (sseqOf x), .bool (y == 1), .slice none 0 0, .int .i64 0] rfl rfl _ HT.out info63 (by simp) (rsm_one0 _ _ _) ?_
      rw [splice_all _ _ (by simp)]
      have hT2 := HT.out.row #[.int .u32 (sseqOf x), .bool (y == 1), .slice none 0 0, .int .i64 0]
      have hOT := (Only.refl (fun k => k = t) wD).setRow (g := t) (.inl rfl) #[.int .u32 (sseqOf x), .bool (y == 1), .slice none 0 0, .int .i64 0]
      generalize wD.setRow t #[.int .u32 (sseqOf x), .bool (y == 1), .slice none 0 0, .int .i64 0] = wT at *
      have HS3 := Lib.hid (HS2.out.trans (hOT.below HS2.out.size (fun k hk => by have := HTB.out; omega)))
      refine hK _ _ HS3.out ?_
      clear hK K
      try simp only [Act.put, List.setIfInBounds_toArray, List.set_cons_succ, List.set_cons_zero]
      refine wpAnyH_done (by kernel_rfl) ?_ _
      go_wp2_with fail
      go_meet
      exact ⟨t, _, rfl, HRD.out t wT HS3.out hT2 HTB.out⟩
    · refine wp_runTo (some 3) rfl _ _ (exec_alloc _ _ _ 63 rfl _ zero63) ?_
      have hT := Blk.new wS #[.int .u32 0, .bool false, .slice none 0 0, .int .i64 0] 63
      have hBT := (Below.refl wS.heap.size wS).alloc (Nat.le_refl _) (.cells #[.int .u32 0, .bool false, .slice none 0 0, .int .i64 0] 63)
      have HS2 := Lib.hid (HS.out.trans (hBT.mono HS.out.size))
      have HT := Lib.hid hT
      have HTB := Lib.hid HS.out.size
      refine hK _ _ HS2.out ?_
      clear hK K hBT hT
      try simp only [Act.put, List.setIfInBounds_toArray, List.set_cons_succ, List.set_cons_zero]
      generalize wS.alloc (.cells #[.int .u32 0, .bool false, .slice none 0 0, .int .i64 0] 63) = wD at *
      generalize wS.heap.size = t at *
      refine oneH 1 (by kernel_rfl) rfl rfl fun K hK => ?_
      go_simp
      refine (HNU.out _ HS2.out).mono ?_
      rintro e w9 ⟨rfl, rfl⟩
      rw [show num ((x.drop 2).take 4) = sseqOf x from rfl]
      refine hK _ _ HS2.out ?_
      clear hK K
      try simp only [Act.put, List.setIfInBounds_toArray, List.set_cons_succ, List.set_cons_zero]
      refine takeH 5 (some 12) (.agg #[.int .u32 (sseqOf x), .bool (y == 1), .slice none 0 0, .int .i64 0]) rfl rfl (by kernel_rfl) (by kernel_rfl) (by kernel_rfl) (fun _ _ _ h => h) rfl (fun wq hS => by exact exec_build _ _ _ _ 63 _ rfl #[(0, .int .u32 (sseqOf x)), (1, .bool (y == 1))] (by simp only [List.map_toArray, List.map_cons, List.map_nil]; rfl) _ (run_build _ 63 _ _ (built63n _ _))) HS2.out ?_
      try simp only [Act.put, List.setIfInBounds_toArray, List.set_cons_succ, List.set_cons_zero]
      refine oneH 7 (by kernel_rfl) rfl rfl fun K hK => ?_
      refine wp_store_at 63 _ _ rfl t 0 #[.int .u32 (sseqOf x), .bool (y == 1), .slice none 0 0, .int .i64 0] rfl rfl _ HT.out info63 (by simp) (rsm_one0 _ _ _) ?_
      rw [splice_all _ _ (by simp)]
      have hT2 := HT.out.row #[.int .u32 (sseqOf x), .bool (y == 1), .slice none 0 0, .int .i64 0]
      have hOT := (Only.refl (fun k => k = t) wD).setRow (g := t) (.inl rfl) #[.int .u32 (sseqOf x), .bool (y == 1), .slice none 0 0, .int .i64 0]
      generalize wD.setRow t #[.int .u32 (sseqOf x), .bool (y == 1), .slice none 0 0, .int .i64 0] = wT at *
      have HS3 := Lib.hid (HS2.out.trans (hOT.below HS2.out.size (fun k hk => by have := HTB.out; omega)))
      refine hK _ _ HS3.out ?_
      clear hK K
      try simp only [Act.put, List.setIfInBounds_toArray, List.set_cons_succ, List.set_cons_zero]
      refine wpAnyH_done (by kernel_rfl) ?_ _
      go_wp2_with fail
      go_meet
      exact ⟨t, _, rfl, HRD.out t wT HS3.out hT2 HTB.out⟩
  case rest =>
    obtain ⟨t, B, rfl, hrd⟩ := hcut
    have HD := Lib.hid hrd
    clear hrd HA HR HB HLT
    obtain ⟨bm, hbm⟩ : ∃ b, (y == 1) = b := ⟨_, rfl⟩
    rw [hbm] at HD
    have HBM : Hid ((srreadOf x).more = bm) := Lib.hid (by rw [← hbm, ← HY.out]; rfl)
    clear hbm
    go_wp2_with fail
    go_loopg [4] n (fun q' i wr => ∃ k : Nat, n - k ≤ q' ∧ k ≤ n ∧ i = .int .i64 k ∧ ∃ sv, RD w wr B w.heap.size r t x (sseqOf x) bm sv ∧ OwnM wr B sv (marksOf x k))
    case atStart => exact ⟨0, by omega, by omega, rfl, _, HD.out, OwnM.nil _ _⟩
    case round =>
      obtain ⟨k, hgk, hk, rfl, sv, hrd, hown⟩ := hrel
      have HD2 := Lib.hid hrd
      have HO := Lib.hid hown
      clear hrd hown HD
      have c6 : wr.cell? ⟨w.heap.size, 6, none⟩ = some (.int .u8 y6) := by rw [← HN6.out]; exact HD2.out.sec.cell (sc_cell HX.out (by decide))
      have hn0 := HNN.out
      have hk0 : (0 : Int) ≤ (k : Int) := by omega
      by_cases hlt : k < n
      · have hmin : (k : Int) < min 24 y6 := by omega
        clear hn0
        go_upto_region 5 with fail
        rename (k : Int) < (if y6 < 24 then y6 else 24) => hif
        clear hif hmin
        have hk1 : (k : Int) < 24 := by omega
        obtain ⟨b1, b2⟩ := sc_byte HX.out (7 + 2 * k)
        obtain ⟨b3, b4⟩ := sc_byte HX.out (8 + 2 * k)
        obtain ⟨mk, hmk⟩ : ∃ z, x.getD (7 + 2 * k) 0 = z := ⟨_, rfl⟩
        obtain ⟨mi, hmi⟩ : ∃ z, x.getD (8 + 2 * k) 0 = z := ⟨_, rfl⟩
        rw [hmk] at b1 b2
        rw [hmi] at b3 b4
        have HMS : Hid (marksOf x (k + 1) = marksOf x k ++ [(mk, mi)]) := Lib.hid (by rw [marksOf_snoc, hmk, hmi])
        have HC := Lib.hid (fun wq (hS : Only (fun j => j = t ∨ B ≤ j) wr wq) => show wq.cell? ⟨w.heap.size, 7 + 2 * k, none⟩ = some (.int .u8 mk) ∧ wq.cell? ⟨w.heap.size, 8 + 2 * k, none⟩ = some (.int .u8 mi) from by
          have hb := HD2.out.sec.only hS (by have := HD2.out.gr; have := HD2.out.rt; have := HD2.out.tb; omega)
          rw [← hmk, ← hmi]
          exact ⟨hb.cell (sc_cell HX.out (by omega)), hb.cell (sc_cell HX.out (by omega))⟩)
        clear hmk hmi c6
        refine startH (fun wq => Only (fun j => j = t ∨ B ≤ j) wr wq) (by kernel_rfl) ?_
        have HSd := Lib.hid ((Only.refl (fun j => j = t ∨ B ≤ j) wr).drew)
        have HDd := Lib.hid (HD2.out.below (Below.refl _ _).drew)
        have HOd := Lib.hid (HO.out.below (Below.refl _ _).drew)
        generalize wr.drew = wS at *
        refine takeH 0 (some 21) (.pointer (some ⟨t, 2, none⟩)) rfl rfl (by kernel_rfl) (by kernel_rfl) (by kernel_rfl) (fun _ _ _ h => h) rfl (fun wq hS => by go_simp) HSd.out ?_
        try simp only [Act.put, List.setIfInBounds_toArray, List.set_cons_succ, List.set_cons_zero]
        refine takeH 2 (some 23) (.int .i64 k) rfl rfl (by kernel_rfl) (by kernel_rfl) (by kernel_rfl) (fun _ _ _ h => h) rfl (fun wq hS => by go_simp) HSd.out ?_
        try simp only [Act.put, List.setIfInBounds_toArray, List.set_cons_succ, List.set_cons_zero]
        refine takeH 3 (some 24) (.int .i64 (2 * (k : Int))) rfl rfl (by kernel_rfl) (by kernel_rfl) (by kernel_rfl) (fun _ _ _ h => h) rfl (fun wq hS => by go_simp <;> exact wrap64 (by omega) (by omega)) HSd.out ?_
        try simp only [Act.put, List.setIfInBounds_toArray, List.set_cons_succ, List.set_cons_zero]
        refine takeH 4 (some 25) (.int .i64 (7 + 2 * (k : Int))) rfl rfl (by kernel_rfl) (by kernel_rfl) (by kernel_rfl) (fun _ _ _ h => h) rfl (fun wq hS => by go_simp <;> exact wrap64 (by omega) (by omega)) HSd.out ?_
        try simp only [Act.put, List.setIfInBounds_toArray, List.set_cons_succ, List.set_cons_zero]
        refine takeH 5 (some 26) (.pointer (some ⟨w.heap.size, 7 + 2 * k, none⟩)) rfl rfl (by kernel_rfl) (by kernel_rfl) (by kernel_rfl) (fun _ _ _ h => h) rfl (fun wq hS => by go_simp; rw [if_pos (by omega), show (7 + 2 * (k : Int)).toNat = 7 + 2 * k by omega]) HSd.out ?_
        try simp only [Act.put, List.setIfInBounds_toArray, List.set_cons_succ, List.set_cons_zero]
        refine takeH 6 (some 27) (.int .u8 mk) rfl rfl (by kernel_rfl) (by kernel_rfl) (by kernel_rfl) (fun _ _ _ h => h) rfl (fun wq hS => by have hq := (HC.out wq hS).1; go_simp) HSd.out ?_
        try simp only [Act.put, List.setIfInBounds_toArray, List.set_cons_succ, List.set_cons_zero]
        refine takeH 7 (some 28) (.int .i64 mk) rfl rfl (by kernel_rfl) (by kernel_rfl) (by kernel_rfl) (fun _ _ _ h => h) rfl (fun wq hS => by go_simp; exact wrap64 b1 (by omega)) HSd.out ?_
        try simp only [Act.put, List.setIfInBounds_toArray, List.set_cons_succ, List.set_cons_zero]
        refine takeH 8 (some 29) (.int .i64 k) rfl rfl (by kernel_rfl) (by kernel_rfl) (by kernel_rfl) (fun _ _ _ h => h) rfl (fun wq hS => by go_simp) HSd.out ?_
        try simp only [Act.put, List.setIfInBounds_toArray, List.set_cons_succ, List.set_cons_zero]
        refine takeH 9 (some 30) (.int .i64 (2 * (k : Int))) rfl rfl (by kernel_rfl) (by kernel_rfl) (by kernel_rfl) (fun _ _ _ h => h) rfl (fun wq hS => by go_simp <;> exact wrap64 (by omega) (by omega)) HSd.out ?_
        try simp only [Act.put, List.setIfInBounds_toArray, List.set_cons_succ, List.set_cons_zero]
        refine takeH 10 (some 31) (.int .i64 (8 + 2 * (k : Int))) rfl rfl (by kernel_rfl) (by kernel_rfl) (by kernel_rfl) (fun _ _ _ h => h) rfl (fun wq hS => by go_simp <;> exact wrap64 (by omega) (by omega)) HSd.out ?_
        try simp only [Act.put, List.setIfInBounds_toArray, List.set_cons_succ, List.set_cons_zero]
        refine takeH 11 (some 32) (.pointer (some ⟨w.heap.size, 8 + 2 * k, none⟩)) rfl rfl (by kernel_rfl) (by kernel_rfl) (by kernel_rfl) (fun _ _ _ h => h) rfl (fun wq hS => by go_simp; rw [if_pos (by omega), show (8 + 2 * (k : Int)).toNat = 8 + 2 * k by omega]) HSd.out ?_
        try simp only [Act.put, List.setIfInBounds_toArray, List.set_cons_succ, List.set_cons_zero]
        refine takeH 12 (some 33) (.int .u8 mi) rfl rfl (by kernel_rfl) (by kernel_rfl) (by kernel_rfl) (fun _ _ _ h => h) rfl (fun wq hS => by have hq := (HC.out wq hS).2; go_simp) HSd.out ?_
        try simp only [Act.put, List.setIfInBounds_toArray, List.set_cons_succ, List.set_cons_zero]
        refine takeH 13 (some 34) (.int .i64 mi) rfl rfl (by kernel_rfl) (by kernel_rfl) (by kernel_rfl) (fun _ _ _ h => h) rfl (fun wq hS => by go_simp; exact wrap64 b3 (by omega)) HSd.out ?_
        try simp only [Act.put, List.setIfInBounds_toArray, List.set_cons_succ, List.set_cons_zero]
        refine takeH 14 (some 35) (.agg #[.int .i64 mk, .int .i64 mi]) rfl rfl (by kernel_rfl) (by kernel_rfl) (by kernel_rfl) (fun _ _ _ h => h) rfl (fun wq hS => by go_simp) HSd.out ?_
        try simp only [Act.put, List.setIfInBounds_toArray, List.set_cons_succ, List.set_cons_zero]
        refine twoH 1 15 (by kernel_rfl) rfl rfl rfl rfl (fun K hK => ?_) (fun K hK => ?_)
        · refine wp_runTo (some 22) rfl sv wS (by have hq := HDd.out.var.cell (i := 2) rfl; go_simp) ?_
          refine hK _ _ HSd.out ?_
          clear hK K
          try simp only [Act.put, List.setIfInBounds_toArray, List.set_cons_succ, List.set_cons_zero]
          refine oneH 15 (by kernel_rfl) rfl rfl fun K hK => ?_
          refine wp_runTo (some 36) rfl (.slice (some ⟨wS.heap.size, 0, none⟩) 1 1) (wS.alloc (.cells #[.int .i64 mk, .int .i64 mi] 70)) (by go_simp) ?_
          have hb1 := (Below.refl wS.heap.size wS).alloc (Nat.le_refl _) (.cells #[.int .i64 mk, .int .i64 mi] 70)
          have HLL : Hid (MarksAt (wS.alloc (.cells #[.int .i64 mk, .int .i64 mi] 70)) (.slice (some ⟨wS.heap.size, 0, none⟩) 1 1) [(mk, mi)]) := Lib.hid (OwnM.lit wS wS.heap.size (Nat.le_refl _) [(mk, mi)] (by simp) _ rfl).marks
          have HSe := Lib.hid (HSd.out.alloc (.cells #[.int .i64 mk, .int .i64 mi] 70))
          have HDe := Lib.hid (HDd.out.below hb1)
          have HOe := Lib.hid (HOd.out.below hb1)
          clear hb1
          generalize wS.alloc (.cells #[.int .i64 mk, .int .i64 mi] 70) = wT at *
          generalize (Value.slice (some ⟨wS.heap.size, 0, none⟩) 1 1) = lv at *
          refine hK _ _ HSe.out ?_
          clear hK K
          try simp only [Act.put, List.setIfInBounds_toArray, List.set_cons_succ, List.set_cons_zero]
          refine oneH 16 (by kernel_rfl) rfl rfl fun K hK => ?_
          refine app_WM _ _ (some 37) rfl rfl HOe.out HDe.out.bs HLL.out (by rw [marksOf_length]; simp; omega) rfl rfl ?_
          intro sv' wU hO hB
          have HSf := Lib.hid (HSe.out.trans (⟨hB.os, hB.tape, hB.output, hB.size, fun j hj hs => hB.block j (by have := HDe.out.bs; omega)⟩ : Only (fun j => j = t ∨ B ≤ j) wT wU))
          have HDf := Lib.hid (HDe.out.low hB)
          have HOf : Hid (OwnM wU B sv' (marksOf x (k + 1))) := Lib.hid (by rw [HMS.out]; exact hO)
          refine hK _ _ HSf.out ?_
          clear hK K hO hB
          try simp only [Act.put, List.setIfInBounds_toArray, List.set_cons_succ, List.set_cons_zero]
          refine takeH 17 (some 38) (.pointer (some ⟨t, 2, none⟩)) rfl rfl (by kernel_rfl) (by kernel_rfl) (by kernel_rfl) (fun _ _ _ h => h) rfl (fun wq hS => by go_simp) HSf.out ?_
          try simp only [Act.put, List.setIfInBounds_toArray, List.set_cons_succ, List.set_cons_zero]
          refine oneH 18 (by kernel_rfl) rfl rfl fun K hK => ?_
          obtain ⟨aq, cq, hsq, -⟩ := HOf.out.marks
          refine swp_skipTo none rfl (wU.setCell ⟨t, 2, none⟩ sv') (by have hq := HDf.out.var.cell (i := 2) rfl; have hf := HDf.out.var.frozen 2; rw [hsq]; go_simp) ?_
          have HDg := Lib.hid (HDf.out.set sv')
          have hos : Only (fun j => j = t) wU (wU.setCell ⟨t, 2, none⟩ sv') := (Only.refl (fun k => k = t) wU).setCell (p := ⟨t, 2, none⟩) (.inl rfl) _
          have HSg := Lib.hid (HSf.out.trans (hos.more (fun j _ h => Or.inl h)))
          have HOg : Hid (OwnM (wU.setCell ⟨t, 2, none⟩ sv') B sv' (marksOf x (k + 1))) := Lib.hid (ownsRow_setCell_below HOf.out HDf.out.tb sv')
          refine hK _ _ HSg.out ?_
          clear hK K hos hsq
          generalize wU.setCell ⟨t, 2, none⟩ sv' = wV at *
          try simp only [Act.put, List.setIfInBounds_toArray, List.set_cons_succ, List.set_cons_zero]
          refine wpAnyH_done (by kernel_rfl) ?_ _
          go_wp2_with fail
          all_goals
            go_roundg (n - (k + 1))
            case measure => omega
            case rel => exact ⟨k + 1, by omega, by omega, by go_num, sv', HDg.out, HOg.out⟩
        · refine wp_runTo (some 36) rfl (.slice (some ⟨wS.heap.size, 0, none⟩) 1 1) (wS.alloc (.cells #[.int .i64 mk, .int .i64 mi] 70)) (by go_simp) ?_
          have hb1 := (Below.refl wS.heap.size wS).alloc (Nat.le_refl _) (.cells #[.int .i64 mk, .int .i64 mi] 70)
          have HLL : Hid (MarksAt (wS.alloc (.cells #[.int .i64 mk, .int .i64 mi] 70)) (.slice (some ⟨wS.heap.size, 0, none⟩) 1 1) [(mk, mi)]) := Lib.hid (OwnM.lit wS wS.heap.size (Nat.le_refl _) [(mk, mi)] (by simp) _ rfl).marks
          have HSe := Lib.hid (HSd.out.alloc (.cells #[.int .i64 mk, .int .i64 mi] 70))
          have HDe := Lib.hid (HDd.out.below hb1)
          have HOe := Lib.hid (HOd.out.below hb1)
          clear hb1
          generalize wS.alloc (.cells #[.int .i64 mk, .int .i64 mi] 70) = wT at *
          generalize (Value.slice (some ⟨wS.heap.size, 0, none⟩) 1 1) = lv at *
          refine hK _ _ HSe.out ?_
          clear hK K
          try simp only [Act.put, List.setIfInBounds_toArray, List.set_cons_succ, List.set_cons_zero]
          refine oneH 1 (by kernel_rfl) rfl rfl fun K hK => ?_
          refine wp_runTo (some 22) rfl sv wT (by have hq := HDe.out.var.cell (i := 2) rfl; go_simp) ?_
          refine hK _ _ HSe.out ?_
          clear hK K
          try simp only [Act.put, List.setIfInBounds_toArray, List.set_cons_succ, List.set_cons_zero]
          refine oneH 16 (by kernel_rfl) rfl rfl fun K hK => ?_
          refine app_WM _ _ (some 37) rfl rfl HOe.out HDe.out.bs HLL.out (by rw [marksOf_length]; simp; omega) rfl rfl ?_
          intro sv' wU hO hB
          have HSf := Lib.hid (HSe.out.trans (⟨hB.os, hB.tape, hB.output, hB.size, fun j hj hs => hB.block j (by have := HDe.out.bs; omega)⟩ : Only (fun j => j = t ∨ B ≤ j) wT wU))
          have HDf := Lib.hid (HDe.out.low hB)
          have HOf : Hid (OwnM wU B sv' (marksOf x (k + 1))) := Lib.hid (by rw [HMS.out]; exact hO)
          refine hK _ _ HSf.out ?_
          clear hK K hO hB
          try simp only [Act.put, List.setIfInBounds_toArray, List.set_cons_succ, List.set_cons_zero]
          refine takeH 17 (some 38) (.pointer (some ⟨t, 2, none⟩)) rfl rfl (by kernel_rfl) (by kernel_rfl) (by kernel_rfl) (fun _ _ _ h => h) rfl (fun wq hS => by go_simp) HSf.out ?_
          try simp only [Act.put, List.setIfInBounds_toArray, List.set_cons_succ, List.set_cons_zero]
          refine oneH 18 (by kernel_rfl) rfl rfl fun K hK => ?_
          obtain ⟨aq, cq, hsq, -⟩ := HOf.out.marks
          refine swp_skipTo none rfl (wU.setCell ⟨t, 2, none⟩ sv') (by have hq := HDf.out.var.cell (i := 2) rfl; have hf := HDf.out.var.frozen 2; rw [hsq]; go_simp) ?_
          have HDg := Lib.hid (HDf.out.set sv')
          have hos : Only (fun j => j = t) wU (wU.setCell ⟨t, 2, none⟩ sv') := (Only.refl (fun k => k = t) wU).setCell (p := ⟨t, 2, none⟩) (.inl rfl) _
          have HSg := Lib.hid (HSf.out.trans (hos.more (fun j _ h => Or.inl h)))
          have HOg : Hid (OwnM (wU.setCell ⟨t, 2, none⟩ sv') B sv' (marksOf x (k + 1))) := Lib.hid (ownsRow_setCell_below HOf.out HDf.out.tb sv')
          refine hK _ _ HSg.out ?_
          clear hK K hos hsq
          generalize wU.setCell ⟨t, 2, none⟩ sv' = wV at *
          try simp only [Act.put, List.setIfInBounds_toArray, List.set_cons_succ, List.set_cons_zero]
          refine wpAnyH_done (by kernel_rfl) ?_ _
          go_wp2_with fail
          all_goals
            go_roundg (n - (k + 1))
            case measure => omega
            case rel => exact ⟨k + 1, by omega, by omega, by go_num, sv', HDg.out, HOg.out⟩
      · have hmin : ¬ (k : Int) < min 24 y6 := by omega
        have hkn : k = n := by omega
        subst hkn
        clear hn0
        have HRS : Hid (srreadOf x = ⟨sseqOf x, bm, marksOf x k⟩) := Lib.hid (by
          unfold srreadOf
          rw [HN6.out, HNN.out]
          have := HBM.out
          unfold srreadOf at this
          simp only at this
          rw [this])
        have HWF := Lib.hid (rreadOf_wf HX.out)
        have HIS := Lib.hid (srread_is x)
        have HYS := Lib.hid (fun (h : isSum x = true) => rread_sum h)
        rw [HRS.out] at HWF HIS HYS
        have HM := Lib.hid HO.out.marks
        have HFR : Hid (Fresh w.heap.size sv) := Lib.hid (OwnM.freshM HO.out (by have := HD2.out.g0; have := HD2.out.gr; have := HD2.out.rt; have := HD2.out.tb; omega))
        obtain ⟨sm, hsm⟩ : ∃ sm : Sm, (⟨sseqOf x, bm, marksOf x k⟩ : Sm) = sm := ⟨_, rfl⟩
        have e1 : sseqOf x = sm.seq := by rw [← hsm]
        have e2 : bm = sm.more := by rw [← hsm]
        have e3 : marksOf x k = sm.marks := by rw [← hsm]
        rw [hsm] at HWF HIS HYS
        rw [e1, e2] at HD2
        rw [e3] at HM
        have HML : Hid (sm.marks.length ≤ 1000000) := Lib.hid (by rw [← e3, marksOf_length]; omega)
        clear hsm HRS HBM HO e1 e2 e3
        have HSE := Lib.hid (ssec_length sm)
        go_upto_region 6 with fail
        clear c6 hmin
        refine wp_region_lit ?_
        refine load63 (cs := #[.int .u32 sm.seq, .bool sm.more, sv, .int .i64 0]) (Blk.all HD2.out.var rfl) rfl rfl rfl ?_
        try simp only [Act.put, List.setIfInBounds_toArray, List.set_cons_succ, List.set_cons_zero]
        refine wpList_op rfl fun K hK => ?_
        go_simp
        refine (srencode_any sm sv 0 HWF.out _ HM.out).mono ?_
        rintro e w2 ⟨rfl, hb⟩
        have HD3 := Lib.hid (HD2.out.below hb)
        have HM3 := Lib.hid (HM.out.below hb)
        refine hK _ _ ?_
        clear hK K hb HD2 HM
        try simp only [Act.put, List.setIfInBounds_toArray, List.set_cons_succ, List.set_cons_zero]
        refine takeL (.tuple #[.agg (u8s sm.sec).toArray, .int .i64 sm.err]) rfl (by go_simp) ?_
        try simp only [Act.put, List.setIfInBounds_toArray, List.set_cons_succ, List.set_cons_zero]
        refine takeL (.agg (u8s sm.sec).toArray) rfl (by go_simp) ?_
        try simp only [Act.put, List.setIfInBounds_toArray, List.set_cons_succ, List.set_cons_zero]
        refine takeL (.int .i64 sm.err) rfl (by go_simp) ?_
        try simp only [Act.put, List.setIfInBounds_toArray, List.set_cons_succ, List.set_cons_zero]
        refine alloc_g zero50 rfl ?_
        intro wC hC hBC hlC
        try simp only [Act.put, List.setIfInBounds_toArray, List.set_cons_succ, List.set_cons_zero]
        refine store_all (cs := (u8s sm.sec).toArray) hC (by rw [u8s_size, HSE.out]; simp [zeros]) (by rw [u8s_size, HSE.out]; exact info50) (u8s_one _) rfl rfl rfl ?_
        intro wD' hD hOD hlD
        try simp only [Act.put, List.setIfInBounds_toArray, List.set_cons_succ, List.set_cons_zero]
        have hBD := hBC.trans (hOD.below hBC.size (fun k hk => Nat.le_of_eq hk.symm))
        have HD4 := Lib.hid (HD3.out.below hBD)
        have HM4 := Lib.hid (HM3.out.below hBD)
        have HYY := Lib.hid hD
        clear hC hBC hlC hD hOD hlD hBD HD3 HM3
        generalize w2.heap.size = yb at *
        clear w2 wC
        refine takeL (.int .i64 sm.err) rfl (by go_simp) ?_
        try simp only [Act.put, List.setIfInBounds_toArray, List.set_cons_succ, List.set_cons_zero]
        refine wpList_nil ?_
        cases hg : sm.good
        · have HNO : Hid (isSum x = false) := Lib.hid (by rw [← HIS.out, hg]; rfl)
          rw [show sm.err = 11 from by unfold Sm.err; rw [hg]; rfl]
          clear hg HIS HWF
          go_upto_region 8 with fail
          refine wp_region_lit ?_
          refine takeL (.agg #[.int .u32 0, .bool false, .slice none 0 0, .int .i64 11]) rfl (exec_build _ _ _ _ 63 _ rfl #[(3, .int .i64 11)] (by simp only [List.map_toArray, List.map_cons, List.map_nil]; rfl) _ (run_build _ 63 _ _ built63e)) ?_
          try simp only [Act.put, List.setIfInBounds_toArray, List.set_cons_succ, List.set_cons_zero]
          refine store_all (cs := #[.int .u32 0, .bool false, .slice none 0 0, .int .i64 11]) HD4.out.res rfl info63 (rsm_one0 _ _ _) rfl rfl rfl ?_
          intro wZ hZ hOZ hlZ
          try simp only [Act.put, List.setIfInBounds_toArray, List.set_cons_succ, List.set_cons_zero]
          have HF := Lib.hid (HD4.out.bel.trans (hOZ.below HD4.out.bel.size (fun k hk => by have := HD4.out.g0; have := HD4.out.gr; omega)))
          refine wpList_nil ?_
          go_wp2_with fail
          all_goals
            obtain ⟨e1, e2⟩ := decS_no HNO.out
            rw [e1, e2]
            exact bodyPost_ret (v := .agg #[.int .u32 0, .bool false, .slice none 0 0, .int .i64 11]) (results_cell_at rfl _ _ r 0 _ _ rfl Try.underlying63 rfl info63 (hZ.all rfl)) rfl ⟨_, rfl, MarksAt.nil _ _ _, HF.out, Fresh.nil _⟩
        · rw [show sm.err = 0 from by unfold Sm.err; rw [hg]; rfl]
          rw [show sm.sec = sm.enc from by unfold Sm.sec; rw [hg]; rfl] at HYY HSE
          go_upto_region 7 with fail
          refine wp_region_lit ?_
          refine takeL (.int .i64 0) rfl (by go_simp) ?_
          try simp only [Act.put, List.setIfInBounds_toArray, List.set_cons_succ, List.set_cons_zero]
          refine takeL (.bool false) rfl (by go_simp) ?_
          try simp only [Act.put, List.setIfInBounds_toArray, List.set_cons_succ, List.set_cons_zero]
          refine takeL (.bool false) rfl (by go_simp) ?_
          try simp only [Act.put, List.setIfInBounds_toArray, List.set_cons_succ, List.set_cons_zero]
          refine load50 (cs := (u8s sm.enc).toArray) (Blk.all HYY.out rfl) (by rw [u8s_size, HSE.out]) rfl rfl ?_
          try simp only [Act.put, List.setIfInBounds_toArray, List.set_cons_succ, List.set_cons_zero]
          refine load50 (cs := (u8s x).toArray) (Blk.all HD4.out.sec rfl) (by rw [u8s_size, HXL.out]) rfl rfl ?_
          try simp only [Act.put, List.setIfInBounds_toArray, List.set_cons_succ, List.set_cons_zero]
          refine takeL (.bool (!decide (sm.enc = x))) rfl (sneq50 HSE.out HXL.out _ _ _ rfl rfl rfl) ?_
          try simp only [Act.put, List.setIfInBounds_toArray, List.set_cons_succ, List.set_cons_zero]
          by_cases he : sm.enc = x
          · have HYES : Hid (isSum x = true) := Lib.hid (by rw [← HIS.out, hg, decide_eq_true he]; rfl)
            rw [show (!decide (sm.enc = x)) = false from by rw [decide_eq_true he]; rfl]
            clear hg HIS HWF he
            refine takeL (.bool false) rfl (by go_simp) ?_
            try simp only [Act.put, List.setIfInBounds_toArray, List.set_cons_succ, List.set_cons_zero]
            refine wpList_nil ?_
            go_upto_region 9 with fail
            refine wp_region_lit ?_
            refine load63 (cs := #[.int .u32 sm.seq, .bool sm.more, sv, .int .i64 0]) (Blk.all HD4.out.var rfl) rfl rfl rfl ?_
            try simp only [Act.put, List.setIfInBounds_toArray, List.set_cons_succ, List.set_cons_zero]
            refine store_all (cs := #[.int .u32 sm.seq, .bool sm.more, sv, .int .i64 0]) HD4.out.res rfl info63 (rsm_one HM4.out _ _ _) rfl rfl rfl ?_
            intro wZ hZ hOZ hlZ
            try simp only [Act.put, List.setIfInBounds_toArray, List.set_cons_succ, List.set_cons_zero]
            have HF := Lib.hid (HD4.out.bel.trans (hOZ.below HD4.out.bel.size (fun k hk => by have := HD4.out.g0; have := HD4.out.gr; omega)))
            have HMF := Lib.hid (HM4.out.only hOZ HD4.out.res (noMark_rsm _ _ _ _ _ _))
            refine wpList_nil ?_
            go_wp2_with fail
            all_goals
              obtain ⟨e1, e2⟩ := decS_yes HYES.out
              rw [e1, e2, ← HYS.out HYES.out]
              exact bodyPost_ret (v := .agg #[.int .u32 sm.seq, .bool sm.more, sv, .int .i64 0]) (results_cell_at rfl _ _ r 0 _ _ rfl Try.underlying63 rfl info63 (hZ.all rfl)) rfl ⟨_, rfl, HMF.out, HF.out, HFR.out⟩
          · have HNO : Hid (isSum x = false) := Lib.hid (by rw [← HIS.out, hg, decide_eq_false he]; rfl)
            rw [show (!decide (sm.enc = x)) = true from by rw [decide_eq_false he]; rfl]
            clear hg HIS HWF he
            refine takeL (.bool true) rfl (by go_simp) ?_
            try simp only [Act.put, List.setIfInBounds_toArray, List.set_cons_succ, List.set_cons_zero]
            refine wpList_nil ?_
            go_upto_region 8 with fail
            refine wp_region_lit ?_
            refine takeL (.agg #[.int .u32 0, .bool false, .slice none 0 0, .int .i64 11]) rfl (exec_build _ _ _ _ 63 _ rfl #[(3, .int .i64 11)] (by simp only [List.map_toArray, List.map_cons, List.map_nil]; rfl) _ (run_build _ 63 _ _ built63e)) ?_
            try simp only [Act.put, List.setIfInBounds_toArray, List.set_cons_succ, List.set_cons_zero]
            refine store_all (cs := #[.int .u32 0, .bool false, .slice none 0 0, .int .i64 11]) HD4.out.res rfl info63 (rsm_one0 _ _ _) rfl rfl rfl ?_
            intro wZ hZ hOZ hlZ
            try simp only [Act.put, List.setIfInBounds_toArray, List.set_cons_succ, List.set_cons_zero]
            have HF := Lib.hid (HD4.out.bel.trans (hOZ.below HD4.out.bel.size (fun k hk => by have := HD4.out.g0; have := HD4.out.gr; omega)))
            refine wpList_nil ?_
            go_wp2_with fail
            all_goals
              obtain ⟨e1, e2⟩ := decS_no HNO.out
              rw [e1, e2]
              exact bodyPost_ret (v := .agg #[.int .u32 0, .bool false, .slice none 0 0, .int .i64 11]) (results_cell_at rfl _ _ r 0 _ _ rfl Try.underlying63 rfl info63 (hZ.all rfl)) rfl ⟨_, rfl, MarksAt.nil _ _ _, HF.out, Fresh.nil _⟩
end Go.Proofs.Ytbhaifdhmfmeoaa
