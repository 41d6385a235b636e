/- Decode: the summary whose sector x is, or that there is none. -/
import Derived.Test.YtbhaifdhmfmeoaaSread
namespace Go.Proofs.Ytbhaifdhmfmeoaa
set_option linter.unusedSimpArgs false
set_option linter.unusedVariables false
open Go.RowKit

theorem Blk.inv {w : World} {b : Nat} {l : List Value} (h : Blk w b l) {i : Nat} {v : Value} (hi : w.cell? ⟨b, i, none⟩ = some v) : l[i]? = some v := by
  by_cases hl : i < l.length
  · have := h.cell (List.getElem?_eq_getElem hl)
    rw [this] at hi
    rw [List.getElem?_eq_getElem hl, ← hi]
  · obtain ⟨t, ht⟩ := h
    exfalso
    simp [World.cell?, ht, hl] at hi
theorem cell_same {w w' : World} {b i : Nat} (h : w'.heap[b]? = w.heap[b]?) : w'.cell? ⟨b, i, none⟩ = w.cell? ⟨b, i, none⟩ := by simp [World.cell?, h]
/-- No two numbers stand beside each other. -/
def NoMark (L : List Value) : Prop := ∀ i n m, L[i]? = some (.int .i64 n) → L[i + 1]? = some (.int .i64 m) → False
theorem MarksAt.only {w w' : World} {sv : Value} {l : List Mk} {t : Nat} {L : List Value} (h : MarksAt w sv l) (ho : Only (fun k => k = t) w w') (ht : Blk w t L) (hL : NoMark L) : MarksAt w' sv l := by
  obtain ⟨a, cap, e, hc⟩ := h
  refine ⟨a, cap, e, fun i x hx => ?_⟩
  obtain ⟨b, o, e2, h1, h2⟩ := hc i x hx
  have hb : b ≠ t := by
    rintro rfl
    exact hL _ _ _ (ht.inv h1) (ht.inv h2)
  refine ⟨b, o, e2, ?_, ?_⟩
  · rw [← h1]
    exact cell_same (ho.block b (block_lt_of_cell h1) hb)
  · rw [← h2]
    exact cell_same (ho.block b (block_lt_of_cell h2) hb)
theorem noMark_u8s (l : List Int) : NoMark (u8s l) := fun i n m h _ => by
  rw [List.getElem?_map] at h
  cases e : l[i]? with
  | none => simp [e] at h
  | some z => simp [e] at h
theorem noMark_sm (q : Int) (b : Bool) (a : Option Addr) (n cap : Nat) : NoMark [.int .u32 q, .bool b, .slice a n cap] := fun i n m h _ => by
  match i with
  | 0 => simp at h
  | 1 => simp at h
  | 2 => simp at h
  | i + 3 => simp at h
theorem noMark_rsm (q : Int) (b : Bool) (a : Option Addr) (n cap : Nat) (e : Int) : NoMark [.int .u32 q, .bool b, .slice a n cap, .int .i64 e] := fun i n m h k => by
  match i with
  | 0 => simp at h
  | 1 => simp at h
  | 2 => simp at h
  | 3 => simp at k
  | i + 4 => simp at h
theorem sm_one {w : World} {sv : Value} {l : List Mk} (h : MarksAt w sv l) (n : Int) (b : Bool) : ∀ v ∈ (#[.int .u32 n, .bool b, sv] : Array Value), v.oneCell' = true := by
  obtain ⟨a, cap, rfl, _⟩ := h
  exact scells_one _ _ _ _ _
theorem info5f : ∃ i, Try.prog.info? 5 = some i ∧ i.size = 1 := size_of info5s
theorem guard50 : Try.prog.eqGuardType Try.prog.depth 50 = false := by kernel_rfl
theorem sneq50 {l m : List Int} (hl : l.length = 64) (hm : m.length = 64) (ev : Operand → Value) (o : Oper) (w : World) {x y : Operand} {t : TypeId} (ho : o.op = .binOp .neq 50 x y t) (hx : ev x = .agg (u8s l).toArray) (hy : ev y = .agg (u8s m).toArray) : (execOp ev o).run Try.prog w = .ok (.value (.bool (!decide (l = m)))) w := by
  obtain ⟨i, hi, hs⟩ := info5f
  have := run_neq_ints (P := Try.prog) w 50 5 64 .u8 .u8 i l m Try.underlying50 Try.underlying5 hi hs hl hm
  unfold execOp
  simp only [ho, hx, hy, Sem.run_bind, run_eqGuard_agg w .neq 50 x y _ _ guard50, Result.andThen_ok, this, Sem.run_pure]
theorem seql50 {l m : List Int} (hl : l.length = 64) (hm : m.length = 64) (ev : Operand → Value) (o : Oper) (w : World) {x y : Operand} {t : TypeId} (ho : o.op = .binOp .eql 50 x y t) (hx : ev x = .agg (u8s l).toArray) (hy : ev y = .agg (u8s m).toArray) : (execOp ev o).run Try.prog w = .ok (.value (.bool (decide (l = m)))) w := by
  obtain ⟨i, hi, hs⟩ := info5f
  have := run_eql_ints (P := Try.prog) w 50 5 64 .u8 .u8 i l m Try.underlying50 Try.underlying5 hi hs hl hm
  unfold execOp
  simp only [ho, hx, hy, Sem.run_bind, run_eqGuard_agg w .eql 50 x y _ _ guard50, Result.andThen_ok, this, Sem.run_pure]
theorem built100 : Try.prog.built 100 [] = some #[.int .u32 0, .bool false, .slice none 0 0] := by kernel_rfl
theorem build100 (w : World) : (Instr.build 100 #[]).run Try.prog w = .ok (.agg #[.int .u32 0, .bool false, .slice none 0 0]) w := run_build w 100 _ _ built100
theorem zero100 : (Try.prog.info? 100).bind (·.zero) = some (.agg #[.int .u32 0, .bool false, .slice none 0 0]) := by kernel_rfl
theorem decS_no {x : List Int} (h : isSum x = false) : decS x = Sm.none ∧ sdecE x = 11 := by unfold decS sdecE; rw [h]; exact ⟨rfl, rfl⟩
theorem decS_yes {x : List Int} (h : isSum x = true) : decS x = sreadOf x ∧ sdecE x = 0 := by unfold decS sdecE; rw [h]; exact ⟨rfl, rfl⟩

set_option maxRecDepth 100000 in
theorem sdecode_any (x : List Int) (hx : Sc x) (w : World) : Calls Try.prog 51 #[.agg (u8s x).toArray] w fun e w' => ∃ sv, e = .returned (.tuple #[.agg #[.int .u32 (decS x).seq, .bool (decS x).more, sv], .int .i64 (sdecE x)]) ∧ MarksAt w' sv (decS x).marks ∧ Below w.heap.size w w' ∧ Fresh w.heap.size sv := by
  have HX := Lib.hid hx
  have HXL := Lib.hid hx.length
  obtain ⟨h60, h61⟩ := sc_byte hx 6
  obtain ⟨n, hn⟩ : ∃ n : Int, x.getD 6 0 = n := ⟨_, rfl⟩
  rw [hn] at h60 h61
  have HN := Lib.hid hn
  clear hx hn
  go_enter Try.func51, Try.ntmps51
  go_upto_region 0 with fail
  refine wp_region_lit ?_
  refine box_g rfl rfl ?_
  intro wA hA hB hl1
  try simp only [Act.put, List.setIfInBounds_toArray, List.set_cons_succ, List.set_cons_zero]
  refine alloc_g zero100 rfl ?_
  intro wB hR hB2 hl2
  try simp only [Act.put, List.setIfInBounds_toArray, List.set_cons_succ, List.set_cons_zero]
  have HA := Lib.hid (hA.below hB2 hl1)
  have HR := Lib.hid hR
  have HB := Lib.hid (hB.trans (hB2.mono hB.size))
  have HLT : Hid (w.heap.size < wA.heap.size) := Lib.hid hl1
  clear hA hB hl1 hR hB2 hl2
  generalize hrr : wA.heap.size = r at *
  clear hrr wA
  refine takeL (.int .i64 0) rfl (by go_simp) ?_
  try simp only [Act.put, List.setIfInBounds_toArray, List.set_cons_succ, List.set_cons_zero]
  refine wpList_nil ?_
  have c6 : wB.cell? ⟨w.heap.size, 6, none⟩ = some (.int .u8 n) := by rw [← HN.out]; exact HA.out.cell (sc_cell HX.out (by decide))
  by_cases h24 : 24 < n
  · have HNO : Hid (isSum x = false) := Lib.hid (by
      cases e : isSum x with
      | false => rfl
      | true =>
        have := isSum_count e (by rw [HN.out]; exact h60)
        rw [HN.out] at this
        omega)
    go_upto_region 2 with fail
    refine wp_region_lit ?_
    refine build_g (build100 _) rfl ?_
    try simp only [Act.put, List.setIfInBounds_toArray, List.set_cons_succ, List.set_cons_zero]
    refine store_all (cs := #[.int .u32 0, .bool false, .slice none 0 0]) HR.out rfl info100 (scells_one _ _ _ _ _) rfl rfl rfl ?_
    intro wZ hZ hOZ hlZ
    try simp only [Act.put, List.setIfInBounds_toArray, List.set_cons_succ, List.set_cons_zero]
    have HF := Lib.hid (HB.out.trans (hOZ.below HB.out.size (fun k hk => by have := HLT.out; omega)))
    refine takeL (.int .i64 11) rfl (by go_simp) ?_
    try simp only [Act.put, List.setIfInBounds_toArray, List.set_cons_succ, List.set_cons_zero]
    refine wpList_nil ?_
    go_wp2_with fail
    obtain ⟨e1, e2⟩ := decS_no HNO.out
    rw [e1, e2]
    refine bodyPost_ret (v := .tuple #[.agg #[.int .u32 0, .bool false, .slice none 0 0], .int .i64 11]) (results_cell_tmp rfl _ _ r 0 _ _ _ rfl rfl Try.underlying100 rfl info100 (hZ.all rfl)) rfl ⟨_, rfl, MarksAt.nil _ _ _, HF.out, Fresh.nil _⟩
  · have HRD := Lib.hid fun w => sread_any x HX.out (by rw [HN.out]; omega) w
    have HWF := Lib.hid (sreadOf_wf HX.out)
    have HIS := Lib.hid (show isSum x = ((sreadOf x).good && decide ((sreadOf x).enc = x)) from rfl)
    have HML : Hid ((sreadOf x).marks.length ≤ 1000000) := Lib.hid (by
      have : (sreadOf x).marks.length = min 24 (x.getD 6 0).toNat := marksOf_length _ _
      omega)
    go_upto_region 3 with fail
    refine wp_region_lit ?_
    refine load50 (cs := (u8s x).toArray) (Blk.all HA.out rfl) (by rw [u8s_size, HXL.out]) rfl rfl ?_
    try simp only [Act.put, List.setIfInBounds_toArray, List.set_cons_succ, List.set_cons_zero]
    refine wpList_op rfl fun K hK => ?_
    go_simp
    refine (HRD.out _).mono ?_
    rintro e w1 ⟨sv, rfl, hm, hb, hfr⟩
    have HFSH : Hid (Fresh w.heap.size sv) := Lib.hid fun b o n c e => Nat.le_trans HB.out.size (hfr b o n c e)
    clear hfr
    have HA1 := Lib.hid (HA.out.below hb HA.out.lt)
    have HR1 := Lib.hid (HR.out.below hb HR.out.lt)
    have HB1 := Lib.hid (HB.out.trans (hb.mono HB.out.size))
    have HM1 := Lib.hid hm
    refine hK _ _ ?_
    clear hK K hb hm HA HR HB HRD c6
    try simp only [Act.put, List.setIfInBounds_toArray, List.set_cons_succ, List.set_cons_zero]
    refine alloc_g zero100 rfl ?_
    intro wC hC hBC hlC
    try simp only [Act.put, List.setIfInBounds_toArray, List.set_cons_succ, List.set_cons_zero]
    refine store_all (cs := #[.int .u32 (sreadOf x).seq, .bool (sreadOf x).more, sv]) hC rfl info100 (sm_one HM1.out _ _) rfl rfl rfl ?_
    intro wD hD hOD hlD
    try simp only [Act.put, List.setIfInBounds_toArray, List.set_cons_succ, List.set_cons_zero]
    have hBD := hBC.trans (hOD.below hBC.size (fun k hk => Nat.le_of_eq hk.symm))
    have HA := Lib.hid (HA1.out.below hBD HA1.out.lt)
    have HR := Lib.hid (HR1.out.below hBD HR1.out.lt)
    have HB := Lib.hid (HB1.out.trans (hBD.mono HB1.out.size))
    have HM := Lib.hid (HM1.out.below hBD)
    have HT := Lib.hid hD
    clear hC hBC hlC hD hOD hlD hBD HA1 HR1 HB1 HM1
    generalize w1.heap.size = t at *
    clear w1 wC
    refine wpList_nil ?_
    go_upto_region 4 with fail
    refine wp_region_lit ?_
    refine load100 (cs := #[.int .u32 (sreadOf x).seq, .bool (sreadOf x).more, sv]) (Blk.all HT.out rfl) rfl rfl rfl ?_
    try simp only [Act.put, List.setIfInBounds_toArray, List.set_cons_succ, List.set_cons_zero]
    refine wpList_op rfl fun K hK => ?_
    go_simp
    refine (sencode_any (sreadOf x) sv HML.out HWF.out _ HM.out).mono ?_
    rintro e w2 ⟨rfl, hb⟩
    have HA2 := Lib.hid (HA.out.below hb HA.out.lt)
    have HR2 := Lib.hid (HR.out.below hb HR.out.lt)
    have HT2 := Lib.hid (HT.out.below hb HT.out.lt)
    have HB2 := Lib.hid (HB.out.trans (hb.mono HB.out.size))
    have HM2 := Lib.hid (HM.out.below hb)
    refine hK _ _ ?_
    clear hK K hb HA HR HB HM HT
    try simp only [Act.put, List.setIfInBounds_toArray, List.set_cons_succ, List.set_cons_zero]
    refine takeL (.tuple #[.agg (u8s (sreadOf x).sec).toArray, .int .i64 (sreadOf x).err]) rfl (by go_simp) ?_
    try simp only [Act.put, List.setIfInBounds_toArray, List.set_cons_succ, List.set_cons_zero]
    refine takeL (.agg (u8s (sreadOf x).sec).toArray) rfl (by go_simp) ?_
    try simp only [Act.put, List.setIfInBounds_toArray, List.set_cons_succ, List.set_cons_zero]
    refine takeL (.int .i64 (sreadOf x).err) rfl (by go_simp) ?_
    try simp only [Act.put, List.setIfInBounds_toArray, List.set_cons_succ, List.set_cons_zero]
    have HSE := Lib.hid (ssec_length (sreadOf x))
    refine alloc_g zero50 rfl ?_
    intro wC hC hBC hlC
    try simp only [Act.put, List.setIfInBounds_toArray, List.set_cons_succ, List.set_cons_zero]
    refine store_all (cs := (u8s (sreadOf x).sec).toArray) hC (by rw [u8s_size, HSE.out]; simp [zeros]) (by rw [u8s_size, HSE.out]; exact info50) (u8s_one _) rfl rfl rfl ?_
    intro wD' hD hOD hlD
    try simp only [Act.put, List.setIfInBounds_toArray, List.set_cons_succ, List.set_cons_zero]
    have hBD := hBC.trans (hOD.below hBC.size (fun k hk => Nat.le_of_eq hk.symm))
    have HA := Lib.hid (HA2.out.below hBD HA2.out.lt)
    have HR := Lib.hid (HR2.out.below hBD HR2.out.lt)
    have HT := Lib.hid (HT2.out.below hBD HT2.out.lt)
    have HB := Lib.hid (HB2.out.trans (hBD.mono HB2.out.size))
    have HM := Lib.hid (HM2.out.below hBD)
    have HY := Lib.hid hD
    clear hC hBC hlC hD hOD hlD hBD HA2 HR2 HB2 HM2 HT2
    generalize w2.heap.size = y at *
    clear w2 wC wD
    refine takeL (.int .i64 (sreadOf x).err) rfl (by go_simp) ?_
    try simp only [Act.put, List.setIfInBounds_toArray, List.set_cons_succ, List.set_cons_zero]
    refine wpList_nil ?_
    cases hg : (sreadOf x).good
    · have HNO : Hid (isSum x = false) := Lib.hid (by rw [HIS.out, hg]; rfl)
      rw [show (sreadOf x).err = 11 from by unfold Sm.err; rw [hg]; rfl]
      clear hg HIS HWF
      go_upto_region 6 with fail
      refine wp_region_lit ?_
      refine build_g (build100 _) rfl ?_
      try simp only [Act.put, List.setIfInBounds_toArray, List.set_cons_succ, List.set_cons_zero]
      refine store_all (cs := #[.int .u32 0, .bool false, .slice none 0 0]) HR.out rfl info100 (scells_one _ _ _ _ _) rfl rfl rfl ?_
      intro wZ hZ hOZ hlZ
      try simp only [Act.put, List.setIfInBounds_toArray, List.set_cons_succ, List.set_cons_zero]
      have HF := Lib.hid (HB.out.trans (hOZ.below HB.out.size (fun k hk => by have := HLT.out; omega)))
      refine takeL (.int .i64 11) rfl (by go_simp) ?_
      try simp only [Act.put, List.setIfInBounds_toArray, List.set_cons_succ, List.set_cons_zero]
      refine wpList_nil ?_
      go_wp2_with fail
      obtain ⟨e1, e2⟩ := decS_no HNO.out
      rw [e1, e2]
      refine bodyPost_ret (v := .tuple #[.agg #[.int .u32 0, .bool false, .slice none 0 0], .int .i64 11]) (results_cell_tmp rfl _ _ r 0 _ _ _ rfl rfl Try.underlying100 rfl info100 (hZ.all rfl)) rfl ⟨_, rfl, MarksAt.nil _ _ _, HF.out, Fresh.nil _⟩
    · rw [show (sreadOf x).err = 0 from by unfold Sm.err; rw [hg]; rfl]
      rw [show (sreadOf x).sec = (sreadOf x).enc from by unfold Sm.sec; rw [hg]; rfl] at HY HSE
      go_upto_region 5 with fail
      refine wp_region_lit ?_
      refine takeL (.int .i64 0) rfl (by go_simp) ?_
      try simp only [Act.put, List.setIfInBounds_toArray, List.set_cons_succ, List.set_cons_zero]
      refine takeL (.bool false) rfl (by go_simp) ?_
      try simp only [Act.put, List.setIfInBounds_toArray, List.set_cons_succ, List.set_cons_zero]
      refine takeL (.bool false) rfl (by go_simp) ?_
      try simp only [Act.put, List.setIfInBounds_toArray, List.set_cons_succ, List.set_cons_zero]
      refine load50 (cs := (u8s (sreadOf x).enc).toArray) (Blk.all HY.out rfl) (by rw [u8s_size, HSE.out]) rfl rfl ?_
      try simp only [Act.put, List.setIfInBounds_toArray, List.set_cons_succ, List.set_cons_zero]
      refine load50 (cs := (u8s x).toArray) (Blk.all HA.out rfl) (by rw [u8s_size, HXL.out]) rfl rfl ?_
      try simp only [Act.put, List.setIfInBounds_toArray, List.set_cons_succ, List.set_cons_zero]
      refine takeL (.bool (!decide ((sreadOf x).enc = x))) rfl (sneq50 HSE.out HXL.out _ _ _ rfl rfl rfl) ?_
      try simp only [Act.put, List.setIfInBounds_toArray, List.set_cons_succ, List.set_cons_zero]
      by_cases he : (sreadOf x).enc = x
      · have HYES : Hid (isSum x = true) := Lib.hid (by rw [HIS.out, hg, decide_eq_true he]; rfl)
        rw [show (!decide ((sreadOf x).enc = x)) = false from by rw [decide_eq_true he]; rfl]
        clear hg HIS HWF he
        refine takeL (.bool false) rfl (by go_simp) ?_
        try simp only [Act.put, List.setIfInBounds_toArray, List.set_cons_succ, List.set_cons_zero]
        refine wpList_nil ?_
        go_upto_region 7 with fail
        refine wp_region_lit ?_
        refine load100 (cs := #[.int .u32 (sreadOf x).seq, .bool (sreadOf x).more, sv]) (Blk.all HT.out rfl) rfl rfl rfl ?_
        try simp only [Act.put, List.setIfInBounds_toArray, List.set_cons_succ, List.set_cons_zero]
        refine store_all (cs := #[.int .u32 (sreadOf x).seq, .bool (sreadOf x).more, sv]) HR.out rfl info100 (sm_one HM.out _ _) rfl rfl rfl ?_
        intro wZ hZ hOZ hlZ
        try simp only [Act.put, List.setIfInBounds_toArray, List.set_cons_succ, List.set_cons_zero]
        have HF := Lib.hid (HB.out.trans (hOZ.below HB.out.size (fun k hk => by have := HLT.out; omega)))
        have HMF := Lib.hid (HM.out.only hOZ HR.out (noMark_sm _ _ _ _ _))
        refine takeL (.int .i64 0) rfl (by go_simp) ?_
        try simp only [Act.put, List.setIfInBounds_toArray, List.set_cons_succ, List.set_cons_zero]
        refine wpList_nil ?_
        go_wp2_with fail
        obtain ⟨e1, e2⟩ := decS_yes HYES.out
        rw [e1, e2]
        refine bodyPost_ret (v := .tuple #[.agg #[.int .u32 (sreadOf x).seq, .bool (sreadOf x).more, sv], .int .i64 0]) (results_cell_tmp rfl _ _ r 0 _ _ _ rfl rfl Try.underlying100 rfl info100 (hZ.all rfl)) rfl ⟨_, rfl, HMF.out, HF.out, HFSH.out⟩
      · have HNO : Hid (isSum x = false) := Lib.hid (by rw [HIS.out, hg, decide_eq_false he]; rfl)
        rw [show (!decide ((sreadOf x).enc = x)) = true from by rw [decide_eq_false he]; rfl]
        clear hg HIS HWF he
        refine takeL (.bool true) rfl (by go_simp) ?_
        try simp only [Act.put, List.setIfInBounds_toArray, List.set_cons_succ, List.set_cons_zero]
        refine wpList_nil ?_
        go_upto_region 6 with fail
        refine wp_region_lit ?_
        refine build_g (build100 _) rfl ?_
        try simp only [Act.put, List.setIfInBounds_toArray, List.set_cons_succ, List.set_cons_zero]
        refine store_all (cs := #[.int .u32 0, .bool false, .slice none 0 0]) HR.out rfl info100 (scells_one _ _ _ _ _) rfl rfl rfl ?_
        intro wZ hZ hOZ hlZ
        try simp only [Act.put, List.setIfInBounds_toArray, List.set_cons_succ, List.set_cons_zero]
        have HF := Lib.hid (HB.out.trans (hOZ.below HB.out.size (fun k hk => by have := HLT.out; omega)))
        refine takeL (.int .i64 11) rfl (by go_simp) ?_
        try simp only [Act.put, List.setIfInBounds_toArray, List.set_cons_succ, List.set_cons_zero]
        refine wpList_nil ?_
        go_wp2_with fail
        obtain ⟨e1, e2⟩ := decS_no HNO.out
        rw [e1, e2]
        refine bodyPost_ret (v := .tuple #[.agg #[.int .u32 0, .bool false, .slice none 0 0], .int .i64 11]) (results_cell_tmp rfl _ _ r 0 _ _ _ rfl rfl Try.underlying100 rfl info100 (hZ.all rfl)) rfl ⟨_, rfl, MarksAt.nil _ _ _, HF.out, Fresh.nil _⟩
end Go.Proofs.Ytbhaifdhmfmeoaa
