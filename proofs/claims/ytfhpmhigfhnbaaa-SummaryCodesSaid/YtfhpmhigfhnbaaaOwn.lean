/- Marks that one appends to; the statements' own copy of a summary; two summaries compared. -/
import Derived.Test.YtfhpmhigfhnbaaaDec
namespace Go.Proofs.Ytfhpmhigfhnbaaa
set_option linter.unusedSimpArgs false
set_option linter.unusedVariables false
open Go.RowKit

/-- Marks of one's own: their row was made from B on. -/
def OwnM (w : World) (B : Nat) (sv : Value) (l : List Mk) : Prop := w.ownsRow B 47 2 sv l.length (i64s (flat l))
theorem OwnM.nil (w : World) (B : Nat) : OwnM w B (.slice none 0 0) [] := World.ownsRow_nil w B 47 2
theorem OwnM.marks {w : World} {B : Nat} {sv : Value} {l : List Mk} (h : OwnM w B sv l) : MarksAt w sv l := by
  rcases h.2 with ⟨rfl, h0⟩ | ⟨g, cap, cur, rfl, hb, hg, hn, hm, hs, ht⟩
  · have : l = [] := List.eq_nil_of_length_eq_zero h0
    subst this
    exact MarksAt.nil _ _ _
  · refine ⟨_, cap, rfl, fun i x hx => ⟨g, 0, rfl, ?_, ?_⟩⟩
    · have hi := (List.getElem?_eq_some_iff.1 hx).1
      rw [Nat.zero_add, World.ownsRow.cellAt h (i * 2) (by omega), List.getElem?_map, Nat.mul_comm, flat_fst, hx]
      rfl
    · have hi := (List.getElem?_eq_some_iff.1 hx).1
      rw [Nat.zero_add, World.ownsRow.cellAt h (i * 2 + 1) (by omega), List.getElem?_map, Nat.mul_comm, flat_snd, hx]
      rfl
theorem OwnM.lt {w : World} {B : Nat} {sv : Value} {l : List Mk} (h : OwnM w B sv l) : ∀ k, sv.ownBlock = some k → B ≤ k ∧ k < w.heap.size := World.ownsRow.lt h
theorem OwnM.below {w w' : World} {B : Nat} {sv : Value} {l : List Mk} (h : OwnM w B sv l) (hb : Below w.heap.size w w') : OwnM w' B sv l := by
  refine ⟨h.1, ?_⟩
  rcases h.2 with hn | ⟨g, cap, cur, e, hB, hg, r⟩
  · exact .inl hn
  · exact .inr ⟨g, cap, cur, e, hB, (hb.block g (Array.getElem?_eq_some_iff.1 hg).1).trans hg, r⟩
theorem OwnM.mono {w : World} {B C : Nat} {sv : Value} {l : List Mk} (h : OwnM w B sv l) (hc : C ≤ B) : OwnM w C sv l := World.ownsRow.mono h hc
theorem inf47 : ∃ i, Try.prog.info? 47 = some i ∧ i.zero = some (.agg #[.int .i64 0, .int .i64 0]) ∧ i.size = 2 ∧ i.bytes = 16 := by
  have := info47
  cases hq : Try.prog.info? 47 with
  | none => simp [hq] at this
  | some i => simp [hq] at this; exact ⟨i, rfl, this⟩
/-- The cells of marks, one by one. -/
theorem marks_cells {w : World} {b o : Nat} {m : List Mk} (hc : ∀ i x, m[i]? = some x → w.cell? ⟨b, o + i * 2, none⟩ = some (.int .i64 x.1) ∧ w.cell? ⟨b, o + i * 2 + 1, none⟩ = some (.int .i64 x.2)) (j : Nat) (u : Value) (hu : (i64s (flat m))[j]? = some u) : w.cell? ((⟨b, o, none⟩ : Addr).add j) = some u := by
  rw [show (⟨b, o, none⟩ : Addr).add j = ⟨b, o + j, none⟩ by unfold Addr.add; split <;> simp_all]
  rw [List.getElem?_map] at hu
  rcases (show j % 2 = 0 ∨ j % 2 = 1 by omega) with h | h
  · have e : j = 2 * (j / 2) := by omega
    rw [e, flat_fst] at hu
    cases hz : m[j / 2]? with
    | none => simp [hz] at hu
    | some z =>
      simp [hz] at hu
      subst hu
      have := (hc _ z hz).1
      rwa [show o + j / 2 * 2 = o + j by omega] at this
  · have e : j = 2 * (j / 2) + 1 := by omega
    rw [e, flat_snd] at hu
    cases hz : m[j / 2]? with
    | none => simp [hz] at hu
    | some z =>
      simp [hz] at hu
      subst hu
      have := (hc _ z hz).2
      rwa [show o + j / 2 * 2 + 1 = o + j by omega] at this
/-- Marks appended. -/
theorem app_ownM {w : World} {B : Nat} {sv tv : Value} {l m : List Mk} (h : OwnM w B sv l) (hB : B ≤ w.heap.size) (k : MarksAt w tv m) (hlen : l.length + m.length ≤ 1000000) (ty : TypeId) :
    ∃ sv' w', (Builtin.append_ #[23, 23] ty #[sv, tv]).run Try.prog w = .ok sv' w' ∧ OwnM w' B sv' (l ++ m) ∧ w.grownBy w' sv.ownBlock := by
  obtain ⟨i, hi, hz, hs, hby⟩ := inf47
  cases m with
  | nil =>
    have hsl : ∃ a c, sv = .slice a l.length c ∧ l.length ≤ c := by
      rcases h.2 with ⟨e, h0⟩ | ⟨g, cap, cur, e, _, _, hn, _⟩
      · exact ⟨none, 0, by rw [e, h0], by omega⟩
      · exact ⟨_, cap, e, hn⟩
    obtain ⟨a, c, rfl, hle⟩ := hsl
    obtain ⟨ta, tc, rfl, _⟩ := k
    refine ⟨_, w, run_append_nothing w 23 23 ty 47 i Try.underlying23 hi a l.length c hle _ ⟨.inl ⟨47, Try.underlying23⟩, fun _ => by rfl, ?_, ?_, by simp, fun u hu => by cases hu⟩, by rw [List.append_nil]; exact h, ⟨rfl, rfl, rfl, Nat.le_refl _, fun _ _ _ => rfl⟩⟩
    · cases ta <;> simp [Builtin.firstCells, hs, loadCells, loadCellsFrom]
    · cases ta <;> simp [Builtin.firstCells, hs, loadCells, loadCellsFrom]
  | cons x m =>
    obtain ⟨b, o, c, rfl, hc⟩ := k.has (by simp)
    obtain ⟨v', w', hr, h2, h3, _⟩ := run_append_own (P := Try.prog) w B 23 ty 47 i (.agg #[.int .i64 0, .int .i64 0]) 2 16 Try.underlying23 hi hz hs hby rfl (by decide) sv l.length (i64s (flat l)) h ⟨b, o, none⟩ (x :: m).length c (i64s (flat (x :: m))) (by rw [List.length_map, flat_length]; omega) (fun j u hu => marks_cells hc j u hu) (fun u hu => by obtain ⟨z, _, rfl⟩ := List.mem_map.1 hu; rfl) (by simp only [maxLen]; omega) (by omega) hB
    refine ⟨v', w', hr, ?_, h3⟩
    unfold OwnM
    rw [List.length_append, show i64s (flat (l ++ x :: m)) = i64s (flat l) ++ i64s (flat (x :: m)) by rw [flat_append]; exact List.map_append]
    exact h2
section
variable {ops : Array Oper} {rest : List Oper} {dst : Option Tmp} {x y : Operand} {t2 : TypeId} {pos : String} {after : Array Edge} {guard : Option (Nat × Bool)} {a : Act} {w : World} {Q : Exit → Act → World → Prop}
theorem app_LM {B : Nat} {sv tv : Value} {l m : List Mk} (h : OwnM w B sv l) (hB : B ≤ w.heap.size) (k : MarksAt w tv m) (hlen : l.length + m.length ≤ 1000000) (hx : a.eval x = sv) (hy : a.eval y = tv)
    (hw : Region.wanted ⟨dst, .call { callee := .builtin .append, args := #[x, y], argTypes := #[23, 23] }, t2, pos, after, guard⟩ (yielded ops a.tmps) = true)
    (hh : ∀ sv' w', OwnM w' B sv' (l ++ m) → Below B w w' → wpList Try.prog ops Q rest (a.put dst sv') w') : wpList Try.prog ops Q (⟨dst, .call { callee := .builtin .append, args := #[x, y], argTypes := #[23, 23] }, t2, pos, after, guard⟩ :: rest) a w := by
  obtain ⟨sv', w', hr, ho, hg⟩ := app_ownM h hB k hlen t2
  exact wpList_run sv' w' hw (exec_app a.eval _ x y 23 23 rfl sv tv sv' hx hy hr) (hh sv' w' ho (grown_below hg hB fun k hk => (h.lt k hk).1))
end
theorem app_WM {B : Nat} {sv tv : Value} {l m : List Mk} {o : Oper} {a : Act} {w : World} {K : Act → World → Prop} {Q : Exit → Act → World → Prop} (x y : Operand) (dst : Option Tmp) (hd : o.dst = dst) (ho : o.op = .call { callee := .builtin .append, args := #[x, y], argTypes := #[23, 23] })
    (h : OwnM w B sv l) (hB : B ≤ w.heap.size) (k : MarksAt w tv m) (hlen : l.length + m.length ≤ 1000000) (hx : a.eval x = sv) (hy : a.eval y = tv)
    (hh : ∀ sv' w', OwnM w' B sv' (l ++ m) → Below B w w' → K (a.put dst sv') w') : o.wp Try.prog a w K Q := by
  obtain ⟨sv', w', hr, hO, hg⟩ := app_ownM h hB k hlen o.type
  exact wp_runTo dst hd sv' w' (exec_app a.eval o x y 23 23 ho sv tv sv' hx hy hr) (hh sv' w' hO (grown_below hg hB fun k hk => (h.lt k hk).1))
theorem OwnM.lit (w : World) (B : Nat) (hB : B ≤ w.heap.size) (l : List Mk) (hl : l.length ≤ 1000000) (cs : Array Value) (hc : cs = (i64s (flat l)).toArray) : OwnM (w.alloc (.cells cs 47)) B (.slice (some ⟨w.heap.size, 0, none⟩) l.length l.length) l := by
  subst hc
  refine ⟨by rw [List.length_map, flat_length]; omega, .inr ⟨w.heap.size, l.length, _, rfl, hB, heap_alloc_new w _, Nat.le_refl _, by simp only [maxLen]; omega, by simp [flat_length]; omega, List.take_of_length_le (by simp [flat_length]; omega)⟩⟩
theorem rsm_one {w : World} {sv : Value} {l : List Mk} (h : MarksAt w sv l) (n : Int) (b : Bool) (e : Int) : ∀ v ∈ (#[.int .u32 n, .bool b, sv, .int .i64 e] : Array Value), v.oneCell' = true := by
  obtain ⟨a, cap, rfl, _⟩ := h
  intro v hv
  simp only [List.mem_toArray, List.mem_cons, List.not_mem_nil, or_false] at hv
  rcases hv with rfl | rfl | rfl | rfl <;> rfl
theorem zero35 : (Try.prog.info? 35).bind (·.zero) = some (.agg #[.int .u32 0, .bool false, .slice none 0 0, .int .i64 0]) := by kernel_rfl
theorem built35 (n : Int) (b : Bool) (a : Option Addr) (k c : Nat) : Try.prog.built 35 [(0, .int .u32 n), (1, .bool b), (2, .slice a k c)] = some #[.int .u32 n, .bool b, .slice a k c, .int .i64 0] := by kernel_rfl
theorem build35 {w : World} {sv : Value} {l : List Mk} (h : MarksAt w sv l) (n : Int) (b : Bool) (w' : World) : (Instr.build 35 #[(0, .int .u32 n), (1, .bool b), (2, sv)]).run Try.prog w' = .ok (.agg #[.int .u32 n, .bool b, sv, .int .i64 0]) w' := by
  obtain ⟨a, cap, rfl, _⟩ := h
  exact run_build w' 35 _ _ (built35 n b a _ cap)

set_option maxRecDepth 100000 in
theorem own_any (n : Int) (b : Bool) (sv : Value) (l : List Mk) (hl : l.length ≤ 300) (w : World) (h : MarksAt w sv l) : Calls Try.prog 10 #[.agg #[.int .u32 n, .bool b, sv]] w fun e w' => ∃ sv', e = .returned (.agg #[.int .u32 n, .bool b, sv', .int .i64 0]) ∧ MarksAt w' sv' l ∧ Below w.heap.size w w' := by
  have HM := Lib.hid h
  clear h
  go_enter Try.func10, Try.ntmps10
  go_upto_region 0 with fail
  refine wp_region_lit ?_
  refine box_g rfl rfl ?_
  intro wA hA hB hl1
  try simp only [Act.put, List.setIfInBounds_toArray, List.set_cons_succ, List.set_cons_zero]
  refine alloc_g zero35 rfl ?_
  intro wB hR hB2 hl2
  try simp only [Act.put, List.setIfInBounds_toArray, List.set_cons_succ, List.set_cons_zero]
  have HA := Lib.hid (hA.below hB2 hl1)
  have HR := Lib.hid hR
  have HB := Lib.hid (hB.trans (hB2.mono hB.size))
  have HLT : Hid (w.heap.size < wA.heap.size) := Lib.hid hl1
  have HRL : Hid (wA.heap.size < wB.heap.size) := Lib.hid hl2
  have HM1 := Lib.hid (HM.out.below HB.out)
  clear hA hB hl1 hR hB2 hl2 HM
  generalize hrr : wA.heap.size = r at *
  clear hrr wA
  refine wpList_nil ?_
  go_upto_region 1 with fail
  refine startH (fun wq => Only (fun k => k = r) wB wq) (by kernel_rfl) ?_
  refine takeH 0 (some 3) (.pointer (some ⟨w.heap.size, 0, none⟩)) rfl rfl (by kernel_rfl) (by kernel_rfl) (by kernel_rfl) (fun _ _ _ h => h) rfl (fun wq hS => by go_simp) (Only.of_below (Below.refl _ _).drew) ?_
  try simp only [Act.put, List.setIfInBounds_toArray, List.set_cons_succ, List.set_cons_zero]
  refine takeH 1 (some 4) (.int .u32 n) rfl rfl (by kernel_rfl) (by kernel_rfl) (by kernel_rfl) (fun _ _ _ h => h) rfl (fun wq hS => by have hq := (HA.out.only hS (by have := HLT.out; omega)).cell (i := 0) rfl; go_simp) (Only.of_below (Below.refl _ _).drew) ?_
  try simp only [Act.put, List.setIfInBounds_toArray, List.set_cons_succ, List.set_cons_zero]
  refine takeH 2 (some 5) (.pointer (some ⟨w.heap.size, 1, none⟩)) rfl rfl (by kernel_rfl) (by kernel_rfl) (by kernel_rfl) (fun _ _ _ h => h) rfl (fun wq hS => by go_simp) (Only.of_below (Below.refl _ _).drew) ?_
  try simp only [Act.put, List.setIfInBounds_toArray, List.set_cons_succ, List.set_cons_zero]
  refine takeH 3 (some 6) (.bool b) rfl rfl (by kernel_rfl) (by kernel_rfl) (by kernel_rfl) (fun _ _ _ h => h) rfl (fun wq hS => by have hq := (HA.out.only hS (by have := HLT.out; omega)).cell (i := 1) rfl; go_simp) (Only.of_below (Below.refl _ _).drew) ?_
  try simp only [Act.put, List.setIfInBounds_toArray, List.set_cons_succ, List.set_cons_zero]
  refine takeH 5 (some 8) (.pointer (some ⟨w.heap.size, 2, none⟩)) rfl rfl (by kernel_rfl) (by kernel_rfl) (by kernel_rfl) (fun _ _ _ h => h) rfl (fun wq hS => by go_simp) (Only.of_below (Below.refl _ _).drew) ?_
  try simp only [Act.put, List.setIfInBounds_toArray, List.set_cons_succ, List.set_cons_zero]
  refine takeH 6 (some 9) sv rfl rfl (by kernel_rfl) (by kernel_rfl) (by kernel_rfl) (fun _ _ _ h => h) rfl (fun wq hS => by have hq := (HA.out.only hS (by have := HLT.out; omega)).cell (i := 2) rfl; go_simp) (Only.of_below (Below.refl _ _).drew) ?_
  try simp only [Act.put, List.setIfInBounds_toArray, List.set_cons_succ, List.set_cons_zero]
  have hbd := (Below.refl wB.heap.size wB).drew
  have HDR := Lib.hid hbd
  clear hbd
  generalize wB.drew = wS at *
  refine oneH 4 (by kernel_rfl) rfl rfl fun K hK => ?_
  refine wp_runTo (some 7) rfl (.slice (some ⟨wS.heap.size, 0, none⟩) 0 0) (wS.alloc (.cells #[] 47)) (by go_simp) ?_
  have hO := OwnM.lit wS wS.heap.size (Nat.le_refl _) [] (by simp) #[] rfl
  have hb1 := (Below.refl wS.heap.size wS).alloc (Nat.le_refl _) (.cells #[] 47)
  have HB1 := Lib.hid (HDR.out.trans (hb1.mono HDR.out.size))
  refine hK _ _ (Only.of_below HB1.out) ?_
  clear hK K
  try simp only [Act.put, List.setIfInBounds_toArray, List.set_cons_succ, List.set_cons_zero]
  have HO := Lib.hid hO
  have HSZ : Hid (wS.heap.size ≤ (wS.alloc (.cells #[] 47)).heap.size) := Lib.hid hb1.size
  clear hO hb1
  have HDS : Hid (wB.heap.size ≤ wS.heap.size) := Lib.hid HDR.out.size
  generalize wS.alloc (.cells #[] 47) = wT at *
  generalize wS.heap.size = q at *
  clear HDR wS
  refine oneH 7 (by kernel_rfl) rfl rfl fun K hK => ?_
  refine app_WM _ _ (some 10) rfl rfl HO.out HSZ.out (HM1.out.below HB1.out) (by simp; omega) rfl rfl ?_
  intro sv' w3 hO3 hB3
  have HB3 := Lib.hid (HB1.out.trans (hB3.mono HDS.out))
  refine hK _ _ (Only.of_below HB3.out) ?_
  clear hK K
  have HO3 := Lib.hid hO3
  clear hO3 hB3 HB1 HO
  rw [List.nil_append] at HO3
  try simp only [Act.put, List.setIfInBounds_toArray, List.set_cons_succ, List.set_cons_zero]
  refine takeH 8 (some 11) (.agg #[.int .u32 n, .bool b, sv', .int .i64 0]) rfl rfl (by kernel_rfl) (by kernel_rfl) (by kernel_rfl) (fun _ _ _ h => h) rfl (fun wq hS => exec_build _ _ _ _ 35 _ rfl #[(0, .int .u32 n), (1, .bool b), (2, sv')] (by simp only [List.map_toArray, List.map_cons, List.map_nil]; rfl) _ (build35 HO3.out.marks n b _)) (Only.of_below HB3.out) ?_
  try simp only [Act.put, List.setIfInBounds_toArray, List.set_cons_succ, List.set_cons_zero]
  refine oneH 9 (by kernel_rfl) rfl rfl fun K hK => ?_
  refine wp_store_at 35 _ _ rfl r 0 #[.int .u32 n, .bool b, sv', .int .i64 0] rfl rfl _ (HR.out.below HB3.out HR.out.lt) info35 (by simp) (rsm_one HO3.out.marks _ _ _) ?_
  rw [splice_all _ _ (by simp)]
  have hD := (HR.out.below HB3.out HR.out.lt).row #[.int .u32 n, .bool b, sv', .int .i64 0]
  have hoc : Only (fun k => k = r) w3 (w3.setRow r #[.int .u32 n, .bool b, sv', .int .i64 0]) := (Only.refl (fun k => k = r) w3).setRow (.inl rfl) _
  have HMF := Lib.hid (HO3.out.marks.only hoc (HR.out.below HB3.out HR.out.lt) (noMark_rsm _ _ _ _ _ _))
  have HOC := Lib.hid ((Only.of_below (S := fun k => k = r) HB3.out).trans hoc)
  have HF := Lib.hid (HB.out.trans (((Only.of_below (S := fun k => k = r) HB3.out).trans hoc).below HB.out.size (fun k hk => by have := HLT.out; omega)))
  have HZ := Lib.hid hD
  clear hD hoc
  generalize w3.setRow r #[.int .u32 n, .bool b, sv', .int .i64 0] = wZ at *
  refine hK _ _ HOC.out ?_
  clear hK K
  try simp only [Act.put, List.setIfInBounds_toArray, List.set_cons_succ, List.set_cons_zero]
  refine wpAnyH_done (by kernel_rfl) ?_ _
  go_wp2_with fail
  exact bodyPost_ret (v := .agg #[.int .u32 n, .bool b, sv', .int .i64 0]) (results_cell_at rfl _ _ r 0 _ _ rfl Try.underlying35 rfl info35 (HZ.out.all rfl)) rfl ⟨_, rfl, HMF.out, HF.out⟩

set_option maxRecDepth 100000 in
theorem same_any (n m : Int) (b c : Bool) (l k : List Mk) (sv tv : Value) (e0 : Int) (hl : l.length ≤ 1000000) (hk : k.length ≤ 1000000) (w : World) (h : MarksAt w sv l) (h' : MarksAt w tv k) : Calls Try.prog 13 #[.agg #[.int .u32 n, .bool b, sv], .agg #[.int .u32 m, .bool c, tv, .int .i64 e0]] w fun e w' => e = .returned (.bool (decide (n = m) && (b == c) && decide (l = k))) ∧ Below w.heap.size w w' := by
  obtain ⟨o1, o2, ho⟩ : ∃ o1 o2, o1 = Obj.cells #[.int .u32 n, .bool b, sv] 25 ∧ o2 = Obj.cells #[.int .u32 m, .bool c, tv, .int .i64 e0] 35 := ⟨_, _, rfl, rfl⟩
  have HBW : Hid (Below w.heap.size w ((w.alloc o1).alloc o2)) := Lib.hid (((Below.refl _ _).alloc (Nat.le_refl _) _).alloc (by simp) _)
  have HKP := Lib.hid (keep_any sv tv l k hl hk _ (h.below HBW.out) (h'.below HBW.out))
  obtain ⟨rfl, rfl⟩ := ho
  obtain ⟨v, hv⟩ : ∃ v, decide (l = k) = v := ⟨_, rfl⟩
  rw [hv] at HKP ⊢
  clear hv
  by_cases h1 : n = m
  · subst h1
    rw [decide_eq_true (p := n = n) rfl, Bool.true_and]
    cases b <;> cases c
    all_goals
      go_enter Try.func13, Try.ntmps13
      go_wp2_with fail
      first
        | (go_ret; exact ⟨rfl, HBW.out⟩)
        | (refine HKP.out.mono ?_
           rintro e w1 ⟨rfl, hb⟩
           have HF := Lib.hid (HBW.out.trans (hb.mono HBW.out.size))
           go_wp2_with fail
           go_ret
           exact ⟨rfl, HF.out⟩)
  · rw [decide_eq_false h1, Bool.false_and, Bool.false_and]
    go_enter Try.func13, Try.ntmps13
    go_wp2_with fail
    go_ret
    exact ⟨rfl, HBW.out⟩
end Go.Proofs.Ytfhpmhigfhnbaaa
