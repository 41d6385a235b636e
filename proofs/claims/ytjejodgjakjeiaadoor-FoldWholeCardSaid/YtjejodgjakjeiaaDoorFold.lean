/- The page that a chain comes to: package fold's folded and Page. -/
import Derived.Test.YtjejodgjakjeiaaDoorBack
namespace Go.Proofs.YtjejodgjakjeiaaDoor
set_option linter.unusedSimpArgs false
set_option linter.unusedVariables false
open Go.RowKit

theorem zero44 : (Tryd.prog.info? 44).bind (·.zero) = some .nilIface := by kernel_rfl
theorem size44 : (Tryd.prog.info? 44).map (·.size) = some 1 := by kernel_rfl
theorem run_store_one {P : Program} (w : World) (g : Nat) (ty : TypeId) (u v : Value) (hg : Blk w g [u]) (hi : (P.info? ty).map (·.size) = some 1) (h1 : v.oneCell' = true) (hv : v.cells = #[v]) :
    (storeVar ty ⟨g, 0, none⟩ v).run P w = .ok () (w.setRow g #[v]) := by
  obtain ⟨t, ht⟩ := hg
  have := run_storeCells_at P g 0 t [v] 0 #[u] w ht (by simp) (fun x hx => by simp at hx; subst hx; exact h1)
  cases hq : P.info? ty with
  | none => simp [hq] at hi
  | some i =>
    have hs : i.size = 1 := by simpa [hq] using hi
    simp only [Nat.add_zero, List.length_singleton] at this
    simp only [storeVar, sizeOf, typeInfo, Sem.run_bind, hv] at this ⊢
    simp [this, hq, hs]
section
variable {ops : Array Oper} {rest : List Oper} {dst : Option Tmp} {x : Operand} {t2 : TypeId} {pos : String} {after : Array Edge} {guard : Option (Nat × Bool)} {a : Act} {w : World} {Q : Exit → Act → World → Prop}
theorem alloc_one {t : TypeId} {v : Value} (hz : (Tryd.prog.info? t).bind (·.zero) = some v) (hv : v.cells = #[v]) (hw : Region.wanted ⟨dst, .alloc t, t2, pos, after, guard⟩ (yielded ops a.tmps) = true)
    (h : ∀ wX, Blk wX w.heap.size [v] → Below w.heap.size w wX → w.heap.size < wX.heap.size → wpList Tryd.prog ops Q rest (a.put dst (.pointer (some ⟨w.heap.size, 0, none⟩))) wX) : wpList Tryd.prog ops Q (⟨dst, .alloc t, t2, pos, after, guard⟩ :: rest) a w := by
  refine wpList_run (.pointer (some ⟨w.heap.size, 0, none⟩)) (w.alloc (.cells #[v] t)) hw ?_ (h _ (Blk.new w #[v] t) ((Below.refl _ _).alloc (Nat.le_refl _) _) (by simp))
  cases hq : Tryd.prog.info? t with
  | none => simp [hq] at hz
  | some i =>
    have hz' : i.zero = some v := by simpa [hq] using hz
    unfold execOp
    simp [Instr.alloc, zeroValue, typeInfo, hq, hz', newVar, newRow, hv]
theorem store_one {t : TypeId} {y : Operand} {g : Nat} {u v : Value} (hb : Blk w g [u]) (hi : (Tryd.prog.info? t).map (·.size) = some 1) (h1 : v.oneCell' = true) (hv : v.cells = #[v])
    (hx : a.eval x = .pointer (some ⟨g, 0, none⟩)) (hy : a.eval y = v) (hw : Region.wanted ⟨dst, .store t x y, t2, pos, after, guard⟩ (yielded ops a.tmps) = true)
    (h : ∀ wX, Blk wX g [v] → Only (fun k => k = g) w wX → wpList Tryd.prog ops Q rest (a.put dst undef) wX) : wpList Tryd.prog ops Q (⟨dst, .store t x y, t2, pos, after, guard⟩ :: rest) a w := by
  refine skipL (w.setRow g #[v]) hw ?_ (h _ (hb.row _) ((Only.refl (fun k => k = g) w).setRow (.inl rfl) _))
  unfold execOp
  simp only [hx, hy, Instr.storeAt, Instr.sureAddr, Sem.run_bind, Sem.run_pure, Result.andThen_ok, run_store_one w g t u v hb hi h1 hv]
end
theorem results_two {fn : Func} {p q : Tmp} (h : fn.results = #[.cell p 26, .cell q 44]) (tmps : Array Value) (w : World) (g g2 : Nat) (l : List Int) (v : Value) (hp : tmps.getD p undef = .pointer (some ⟨g, 0, none⟩)) (hq : tmps.getD q undef = .pointer (some ⟨g2, 0, none⟩))
    (hb : Blk w g (u8s l)) (hl : l.length = 32) (hb2 : Blk w g2 [v]) : (results fn tmps).run Tryd.prog w = .ok (.tuple #[.agg (u8s l).toArray, v]) w := by
  have hp' : tmps[p]?.getD undef = .pointer (some ⟨g, 0, none⟩) := by simpa using hp
  have hq' : tmps[q]?.getD undef = .pointer (some ⟨g2, 0, none⟩) := by simpa using hq
  have h1 := run_load_at (P := Tryd.prog) w g 0 26 (u8s l).toArray _ Tryd.underlying26 rfl (by rw [u8s_size, hl]; exact info26) (Blk.all hb rfl)
  have h2 : (loadVar 44 ⟨g2, 0, none⟩).run Tryd.prog w = .ok v w := by
    have hagg : (isAgg 44).run Tryd.prog w = .ok false w := by
      unfold isAgg
      rw [Sem.run_bind, run_underlying Tryd.underlying44 w]
      rfl
    simp [loadVar, Sem.run_bind, hagg, hb2.cell (i := 0) (v := v) rfl]
  simp [results, h, hp', hq', asAddr, h1, h2]
theorem noChain_no (l : List (Bk × Value)) (hno : isChain (l.map (·.1)) = false) (sv : Value) (w : World) (h : BlksAt w sv l) : Calls Tryd.prog 20 #[sv] w fun e w' => ∃ T d t ts, e = .returned (.iface T d) ∧ Chain w' 11 (t :: ts) (.iface T d) ∧ Below w.heap.size w w' :=
  (noChain_any l l.length rfl sv w h).mono fun e w' ⟨h1, h2⟩ => by
    rcases h1 with ⟨h1, -⟩ | ⟨-, T, d, t, ts, h3, h4⟩
    · rw [hno] at h1; cases h1
    · exact ⟨T, d, t, ts, h3, h4, h2⟩
theorem noChain_yes (l : List (Bk × Value)) (hok : isChain (l.map (·.1)) = true) (sv : Value) (w : World) (h : BlksAt w sv l) : Calls Tryd.prog 20 #[sv] w fun e w' => e = .returned .nilIface ∧ Below w.heap.size w w' :=
  (noChain_any l l.length rfl sv w h).mono fun e w' ⟨h1, h2⟩ => by
    rcases h1 with ⟨-, h1⟩ | ⟨h1, -⟩
    · exact ⟨h1, h2⟩
    · rw [hok] at h1; cases h1

/-- The page when these have come. -/
def pp (l : List (Bk × Value)) (pre : List (Fin l.length)) : List Int := pre.foldl (fun p i => (l.get i).1.over p) (zeros 32)
theorem pp_snoc (l : List (Bk × Value)) (pre : List (Fin l.length)) (x : Fin l.length) : pp l (pre ++ [x]) = (l.get x).1.over (pp l pre) := by simp [pp]
theorem chain_at {l : List (Bk × Value)} (h : isChain (l.map (·.1)) = true) (x : Fin l.length) : ∃ id last, okAt id last (l.get x).1 = true := by
  have hx : (l.map (·.1))[x.1]? = some (l.get x).1 := by rw [List.getElem?_map, List.getElem?_eq_getElem x.2]; rfl
  obtain ⟨y, hy⟩ : ∃ y, (l.map (·.1))[0]? = some y := ⟨_, List.getElem?_eq_getElem (by rw [List.length_map]; exact Nat.lt_of_le_of_lt (Nat.zero_le _) x.2)⟩
  exact ⟨_, _, ((isChain_iff _).1 h).2 y hy x.1 _ hx⟩
theorem pp_page {l : List (Bk × Value)} (h : isChain (l.map (·.1)) = true) (hw : ∀ b ∈ l.map (·.1), b.Wf) (pre : List (Fin l.length)) : Pg (pp l pre) := by
  suffices ∀ p, Pg p → Pg (pre.foldl (fun p i => (l.get i).1.over p) p) from this _ Pg.zeros
  induction pre with
  | nil => exact fun p hp => hp
  | cons x r ih =>
    intro p hp
    obtain ⟨id, last, hx⟩ := chain_at h x
    exact ih _ (over_page hx (hw _ (List.mem_map.2 ⟨l.get x, List.get_mem _ _, rfl⟩)) hp)
theorem pp_all {l : List (Bk × Value)} {xs : List (Fin l.length)} (h : xs.map (fun i => l.get i) = l.reverse) : pp l xs = comes (l.map (·.1)) := by
  have : pp l xs = (xs.map (fun i => l.get i)).foldl (fun p y => y.1.over p) (zeros 32) := by
    rw [pp, List.foldl_map]
  rw [this, h, List.foldl_reverse, comes, List.foldr_map]
theorem blks_at {w : World} {sv : Value} {l : List (Bk × Value)} (h : BlksAt w sv l) (x : Fin l.length) : (l.get x).1.Wf ∧ BytesAt w (l.get x).2 (l.get x).1.bytes := by
  obtain ⟨a, cap, e, hc⟩ := h
  obtain ⟨h1, h2, -⟩ := hc x.1 (l.get x) (List.getElem?_eq_getElem x.2)
  exact ⟨h1, h2⟩
set_option maxRecDepth 100000 in
set_option maxHeartbeats 1000000 in
theorem folded_no (l : List (Bk × Value)) (hno : isChain (l.map (·.1)) = false) (sv : Value) (w : World) (h : BlksAt w sv l) : Calls Tryd.prog 13 #[sv] w fun e w' => ∃ T d t ts, e = .returned (.tuple #[.agg (u8s (zeros 32)).toArray, .iface T d]) ∧ Chain w' 11 (t :: ts) (.iface T d) ∧ Below w.heap.size w w' := by
  have HZ32 := Lib.hid (zeros_length 32)
  have HBL : Hid (Below w.heap.size w w) := Lib.hid (Below.refl _ _)
  have HBS := Lib.hid h
  have HNO := Lib.hid hno
  obtain ⟨sa, sc, he, -⟩ := h
  have HE := Lib.hid he
  clear hno he
  refine (callsIn_wide (n := 3)).1 ?_
  refine callsIn_of_wp_marks Tryd.func13 rfl trivial ?_ rfl
  simp only [Tryd.ntmps13, List.size_toArray, List.length_cons, List.length_nil, Nat.reduceAdd, Nat.reduceSub, Array.replicate_succ, Array.replicate_zero, List.push_toArray, List.append_toArray, List.nil_append, List.cons_append]
  refine wpIn_wide.2 ?_
  go_upto_region 0 with fail
  refine wp_region_lit ?_
  refine alloc_g zero26 rfl ?_
  intro w1 hA hb hl
  try simp only [Act.put, List.setIfInBounds_toArray, List.set_cons_succ, List.set_cons_zero]
  clear hl
  have HG2 : Hid (w.heap.size ≤ w.heap.size) := Lib.hid HBL.out.size
  have F3 := Lib.hid (HBL.out.trans (hb.mono HBL.out.size))
  clear HBL
  have F4 : Hid (Blk w1 w.heap.size (u8s (zeros 32))) := Lib.hid hA
  clear hA hb
  refine alloc_one (v := .nilIface) zero44 rfl rfl ?_
  intro w5 hA hb hl
  try simp only [Act.put, List.setIfInBounds_toArray, List.set_cons_succ, List.set_cons_zero]
  clear hl
  have HN6 := Lib.hid (Nat.ne_of_lt F4.out.lt)
  have HG7 : Hid (w.heap.size ≤ w1.heap.size) := Lib.hid F3.out.size
  have F8 := Lib.hid (F3.out.trans (hb.mono F3.out.size))
  have F9 := Lib.hid (F4.out.below hb F4.out.lt)
  clear F3 F4
  have F10 : Hid (Blk w5 w1.heap.size [.nilIface]) := Lib.hid hA
  clear hA hb
  generalize w1.heap.size = g11 at *
  clear w1
  refine wpList_nil ?_
  go_upto_region 1 with fail
  refine wp_region_lit ?_
  refine takeL (sv) rfl (by have hq := HE.out; rw [hq]; go_simp) ?_
  try simp only [Act.put, List.setIfInBounds_toArray, List.set_cons_succ, List.set_cons_zero]
  refine wpList_op rfl fun K hK => ?_
  go_simp
  refine (noChain_no l HNO.out sv _ (HBS.out.below F8.out)).mono ?_
  rintro e w12 ⟨Tw12, dw12, tw12, tsw12, rfl, hc, hb⟩
  have F13 := Lib.hid (F8.out.trans (hb.mono F8.out.size))
  have F14 := Lib.hid (F9.out.below hb F9.out.lt)
  have F15 := Lib.hid (F10.out.below hb F10.out.lt)
  clear F8 F9 F10
  have F16 := Lib.hid hc
  clear hb hc
  refine hK _ _ ?_
  clear hK K
  try simp only [Act.put, List.setIfInBounds_toArray, List.set_cons_succ, List.set_cons_zero]
  refine takeL (.iface Tw12 dw12) rfl (by go_simp) ?_
  try simp only [Act.put, List.setIfInBounds_toArray, List.set_cons_succ, List.set_cons_zero]
  refine wpList_nil ?_
  go_upto_region 2 with fail
  refine wp_region_lit ?_
  refine takeL (.iface Tw12 dw12) rfl (by go_simp) ?_
  try simp only [Act.put, List.setIfInBounds_toArray, List.set_cons_succ, List.set_cons_zero]
  refine takeL (.bool true) rfl (by go_simp) ?_
  try simp only [Act.put, List.setIfInBounds_toArray, List.set_cons_succ, List.set_cons_zero]
  refine wpList_nil ?_
  go_upto_region 3 with fail
  refine wp_region_lit ?_
  refine build_g (build26 _) rfl ?_
  try simp only [Act.put, List.setIfInBounds_toArray, List.set_cons_succ, List.set_cons_zero]
  refine takeL (.iface Tw12 dw12) rfl (by go_simp) ?_
  try simp only [Act.put, List.setIfInBounds_toArray, List.set_cons_succ, List.set_cons_zero]
  refine wpList_op rfl fun K hK => ?_
  go_simp
  refine (wrap_form _ _ _ _ _ _ F16.out).mono ?_
  rintro e w17 ⟨Tw17, dw17, tw17, tsw17, rfl, hc, hb⟩
  have F18 := Lib.hid (F13.out.trans (hb.mono F13.out.size))
  have F19 := Lib.hid (F14.out.below hb F14.out.lt)
  have F20 := Lib.hid (F15.out.below hb F15.out.lt)
  have F21 := Lib.hid (F16.out.below (Nat.le_refl _) hb)
  clear F13 F14 F15 F16
  have F22 := Lib.hid hc
  clear hb hc
  refine hK _ _ ?_
  clear hK K
  try simp only [Act.put, List.setIfInBounds_toArray, List.set_cons_succ, List.set_cons_zero]
  refine store_all (cs := (u8s (zeros 32)).toArray) F19.out (by simp only [u8s_size, List.size_toArray, List.length_append, List.length_singleton, List.length_map, HZ32.out]) (by rw [u8s_size, HZ32.out]; exact info26) (u8s_one _) rfl rfl rfl ?_
  intro w23 hD hO hlD
  try simp only [Act.put, List.setIfInBounds_toArray, List.set_cons_succ, List.set_cons_zero]
  clear hlD
  have F24 := Lib.hid (F18.out.trans (hO.below F18.out.size (fun k hk => by rw [hk]; exact HG2.out)))
  have F25 := Lib.hid (F20.out.only hO (HN6.out.symm))
  have F26 := Lib.hid (F21.out.keep hO (Blk.noStr F19.out (u8s_noStr _)))
  have F27 := Lib.hid (F22.out.keep hO (Blk.noStr F19.out (u8s_noStr _)))
  clear F18 F20 F21 F22 F19
  have F4' : Hid (Blk w23 w.heap.size (u8s (zeros 32))) := Lib.hid hD
  clear hD hO
  refine store_one (v := .iface Tw17 dw17) F25.out size44 rfl rfl rfl rfl rfl ?_
  intro w28 hD hO
  try simp only [Act.put, List.setIfInBounds_toArray, List.set_cons_succ, List.set_cons_zero]
  have F29 := Lib.hid (F24.out.trans (hO.below F24.out.size (fun k hk => by rw [hk]; exact HG7.out)))
  have F30 := Lib.hid (F26.out.keep hO (Blk.noStr F25.out (by simp)))
  have F31 := Lib.hid (F27.out.keep hO (Blk.noStr F25.out (by simp)))
  have F32 := Lib.hid (F4'.out.only hO (HN6.out))
  clear F24 F26 F27 F4' F25
  have F10' : Hid (Blk w28 g11 [.iface Tw17 dw17]) := Lib.hid hD
  clear hD hO
  refine wpList_nil ?_
  go_wp2_with fail
  exact ⟨_, results_two rfl _ _ w.heap.size g11 _ _ rfl rfl F32.out HZ32.out F10'.out, _, _, _, _, rfl, F31.out, F29.out⟩
set_option maxRecDepth 100000 in
set_option maxHeartbeats 2000000 in
theorem folded_yes (l : List (Bk × Value)) (hok : isChain (l.map (·.1)) = true) (sv : Value) (w : World) (h : BlksAt w sv l) (hev : ErrVar w) : Calls Tryd.prog 13 #[sv] w fun e w' => e = .returned (.tuple #[.agg (u8s (comes (l.map (·.1)))).toArray, .nilIface]) ∧ Below w.heap.size w w' := by
  have HZ32 := Lib.hid (zeros_length 32)
  have HBL : Hid (Below w.heap.size w w) := Lib.hid (Below.refl _ _)
  have HBS := Lib.hid h
  have HOK := Lib.hid hok
  have HEV := Lib.hid hev
  obtain ⟨sa, sc, he, -⟩ := h
  have HE := Lib.hid he
  clear hok hev he
  refine (callsIn_wide (n := 3)).1 ?_
  refine callsIn_of_wp_marks Tryd.func13 rfl trivial ?_ rfl
  simp only [Tryd.ntmps13, List.size_toArray, List.length_cons, List.length_nil, Nat.reduceAdd, Nat.reduceSub, Array.replicate_succ, Array.replicate_zero, List.push_toArray, List.append_toArray, List.nil_append, List.cons_append]
  refine wpIn_wide.2 ?_
  go_upto_region 0 with fail
  refine wp_region_lit ?_
  refine alloc_g zero26 rfl ?_
  intro w1 hA hb hl
  try simp only [Act.put, List.setIfInBounds_toArray, List.set_cons_succ, List.set_cons_zero]
  clear hl
  have HG2 : Hid (w.heap.size ≤ w.heap.size) := Lib.hid HBL.out.size
  have F3 := Lib.hid (HBL.out.trans (hb.mono HBL.out.size))
  clear HBL
  have F4 : Hid (Blk w1 w.heap.size (u8s (zeros 32))) := Lib.hid hA
  clear hA hb
  refine alloc_one (v := .nilIface) zero44 rfl rfl ?_
  intro w5 hA hb hl
  try simp only [Act.put, List.setIfInBounds_toArray, List.set_cons_succ, List.set_cons_zero]
  clear hl
  have HN6 := Lib.hid (Nat.ne_of_lt F4.out.lt)
  have HG7 : Hid (w.heap.size ≤ w1.heap.size) := Lib.hid F3.out.size
  have F8 := Lib.hid (F3.out.trans (hb.mono F3.out.size))
  have F9 := Lib.hid (F4.out.below hb F4.out.lt)
  clear F3 F4
  have F10 : Hid (Blk w5 w1.heap.size [.nilIface]) := Lib.hid hA
  clear hA hb
  generalize w1.heap.size = g11 at *
  clear w1
  refine wpList_nil ?_
  go_upto_region 1 with fail
  refine wp_region_lit ?_
  refine takeL (sv) rfl (by have hq := HE.out; rw [hq]; go_simp) ?_
  try simp only [Act.put, List.setIfInBounds_toArray, List.set_cons_succ, List.set_cons_zero]
  refine wpList_op rfl fun K hK => ?_
  go_simp
  refine (noChain_yes l HOK.out sv _ (HBS.out.below F8.out)).mono ?_
  rintro e w12 ⟨rfl, hb⟩
  have F13 := Lib.hid (F8.out.trans (hb.mono F8.out.size))
  have F14 := Lib.hid (F9.out.below hb F9.out.lt)
  have F15 := Lib.hid (F10.out.below hb F10.out.lt)
  clear F8 F9 F10
  clear hb
  refine hK _ _ ?_
  clear hK K
  try simp only [Act.put, List.setIfInBounds_toArray, List.set_cons_succ, List.set_cons_zero]
  refine takeL (.nilIface) rfl (by go_simp) ?_
  try simp only [Act.put, List.setIfInBounds_toArray, List.set_cons_succ, List.set_cons_zero]
  refine wpList_nil ?_
  go_upto_region 2 with fail
  refine wp_region_lit ?_
  refine takeL (.nilIface) rfl (by go_simp) ?_
  try simp only [Act.put, List.setIfInBounds_toArray, List.set_cons_succ, List.set_cons_zero]
  refine takeL (.bool false) rfl (by go_simp) ?_
  try simp only [Act.put, List.setIfInBounds_toArray, List.set_cons_succ, List.set_cons_zero]
  refine wpList_nil ?_
  go_upto_region 4 with fail
  refine wp_region_lit ?_
  refine alloc_g zero26 rfl ?_
  intro w16 hA hb hl
  try simp only [Act.put, List.setIfInBounds_toArray, List.set_cons_succ, List.set_cons_zero]
  clear hl
  have HN17 := Lib.hid (Nat.ne_of_lt F14.out.lt)
  have HN18 := Lib.hid (Nat.ne_of_lt F15.out.lt)
  have HG19 : Hid (w.heap.size ≤ w12.heap.size) := Lib.hid F13.out.size
  have F20 := Lib.hid (F13.out.trans (hb.mono F13.out.size))
  have F21 := Lib.hid (F14.out.below hb F14.out.lt)
  have F22 := Lib.hid (F15.out.below hb F15.out.lt)
  clear F13 F14 F15
  have F23 : Hid (Blk w16 w12.heap.size (u8s (zeros 32))) := Lib.hid hA
  clear hA hb
  generalize w12.heap.size = g24 at *
  clear w12
  refine wpList_nil ?_
  go_upto_region 5 with fail
  refine wp_region_lit ?_
  refine alloc_one (v := .nilIface) zero44 rfl rfl ?_
  intro w25 hA hb hl
  try simp only [Act.put, List.setIfInBounds_toArray, List.set_cons_succ, List.set_cons_zero]
  clear hl
  have HN26 := Lib.hid (Nat.ne_of_lt F21.out.lt)
  have HN27 := Lib.hid (Nat.ne_of_lt F22.out.lt)
  have HN28 := Lib.hid (Nat.ne_of_lt F23.out.lt)
  have HG29 : Hid (w.heap.size ≤ w16.heap.size) := Lib.hid F20.out.size
  have F30 := Lib.hid (F20.out.trans (hb.mono F20.out.size))
  have F31 := Lib.hid (F21.out.below hb F21.out.lt)
  have F32 := Lib.hid (F22.out.below hb F22.out.lt)
  have F33 := Lib.hid (F23.out.below hb F23.out.lt)
  clear F20 F21 F22 F23
  have F34 : Hid (Blk w25 w16.heap.size [.nilIface]) := Lib.hid hA
  clear hA hb
  generalize w16.heap.size = g35 at *
  clear w16
  refine wpList_nil ?_
  go_upto_region 6 with fail
  refine wp_region_lit ?_
  refine takeL (sv) rfl (by have hq := HE.out; rw [hq]; go_simp) ?_
  try simp only [Act.put, List.setIfInBounds_toArray, List.set_cons_succ, List.set_cons_zero]
  have hbk := backward_any sa l.length sc w25
  rw [← HE.out] at hbk
  refine wpList_op rfl fun K hK => ?_
  go_simp
  refine hbk.mono ?_
  clear hbk
  rintro e w36 ⟨rfl, hw⟩
  have hA : Blk w36 w25.heap.size [sv] := by
    rw [hw, HE.out]
    exact Blk.new _ _ _
  have hb : Below w25.heap.size w25 w36 := by
    rw [hw]
    exact (Below.refl _ _).alloc (Nat.le_refl _) _
  clear hw
  have HN37 := Lib.hid (Nat.ne_of_lt F31.out.lt)
  have HN38 := Lib.hid (Nat.ne_of_lt F32.out.lt)
  have HN39 := Lib.hid (Nat.ne_of_lt F33.out.lt)
  have HN40 := Lib.hid (Nat.ne_of_lt F34.out.lt)
  have HG41 : Hid (w.heap.size ≤ w25.heap.size) := Lib.hid F30.out.size
  have F42 := Lib.hid (F30.out.trans (hb.mono F30.out.size))
  have F43 := Lib.hid (F31.out.below hb F31.out.lt)
  have F44 := Lib.hid (F32.out.below hb F32.out.lt)
  have F45 := Lib.hid (F33.out.below hb F33.out.lt)
  have F46 := Lib.hid (F34.out.below hb F34.out.lt)
  clear F30 F31 F32 F33 F34
  have F47 : Hid (Blk w36 w25.heap.size [sv]) := Lib.hid hA
  clear hA hb
  refine hK _ _ ?_
  clear hK K
  try simp only [Act.put, List.setIfInBounds_toArray, List.set_cons_succ, List.set_cons_zero]
  generalize w25.heap.size = g48 at *
  clear w25
  refine wpList_nil ?_
  rename_i K1 hK1 K2 hK2
  refine hK2 _ _ ?_
  refine wp_block ?_
  refine (wpIn_wide (n := 3)).1 ?_
  have hl3 : l.length ≤ 1000 := by
    have := ((isChain_iff _).1 HOK.out).1
    rw [List.length_map] at this
    omega
  refine wpIn_rangeFunc_ownH (F := Fence.wide) (n := 3) rfl (by omega) (gf := 32) (lb := #[.pointer (some ⟨g48, 0, none⟩)]) rfl trivial (enters_of Tryd.func32 (by kernel_rfl) rfl)
    (backward_stops _ g48 sv l hl3 w w36 F42.out F47.out.lt (F47.out.cell (i := 0) (v := sv) rfl) HBS.out) (fun h k => h.trans k) (kb_b F42.out.size F47.out.lt) (Below.refl _ _) (fun _ => rfl)
    (fun pre W => (Blk W g24 (u8s (pp l pre)) ∧ Blk W g35 [.nilIface] ∧ Blk W w.heap.size (u8s (zeros 32)) ∧ Blk W g11 [.nilIface]) ∧ Below w.heap.size w W ∧ w36.heap.size ≤ W.heap.size)
    (fun _ _ _ => False)
    (OwnFrom.and (Own.from (fun s A B row hs hg hr => ⟨hs.1.kept hg hr, hs.2.1.kept hg hr, hs.2.2.1.kept hg hr, hs.2.2.2.kept hg hr⟩) _) (OwnFrom.and (ownFrom_below (Nat.le_refl _) F42.out.size) (fun s A B row hs hg hr => Nat.le_trans hs hg.size)))
    (fun _ _ _ _ _ hs _ _ => hs)
    ⟨⟨F45.out, F46.out, F43.out, F44.out⟩, F42.out, Nat.le_refl _⟩
    (fun x a' W => ∃ Bx, w36.heap.size ≤ Bx ∧ Blk W Bx ((l.get x).1.cells (l.get x).2) ∧ a' = { tmps := #[sv, undef, .pointer (some ⟨w.heap.size, 0, none⟩), .pointer (some ⟨g11, 0, none⟩), .nilIface, .pointer (some ⟨g24, 0, none⟩), .pointer (some ⟨g35, 0, none⟩), undef, .pointer (some ⟨Bx, 0, none⟩), sv, .nilIface, .nilIface, .bool false, undef, undef, undef, sv, .func (.func 32) #[] #[.pointer (some ⟨g48, 0, none⟩)], .int .i64 (x.1 : Int), .agg ((l.get x).1.arr (l.get x).2), undef, undef, undef, undef, undef, undef, undef, undef, undef, undef, undef, undef], defers := [] })
    (fun x a' _ X Y row hs hg hr => by obtain ⟨Bx, h1, h2, h3⟩ := hs; exact ⟨Bx, h1, h2.kept hg (fun r e => (hr r e).2), h3⟩)
    ?assign ?body ?done ?stop
  case stop => exact fun D c pre W _ _ h _ => h.elim
  case assign =>
    rintro lr pre x W K ⟨⟨i1, i2, i3, i4⟩, hB, hZ⟩ hK
    have HK := Lib.hid hK
    obtain ⟨x1, x2⟩ := blks_at HBS.out x
    have HW := Lib.hid x1
    have HLN := Lib.hid x2.len
    have HNW := Lib.hid Bk.none_wf
    have I1 := Lib.hid i1
    have I2 := Lib.hid i2
    have I3 := Lib.hid i3
    have I4 := Lib.hid i4
    have HB := Lib.hid hB
    clear x1 x2 i1 i2 i3 i4 hB hK
    refine regionIn_of (fun ⟨_, _, h⟩ => h) (noDefer_all rfl) ?_
    rw [show ((#[18, 19] : Array Tmp).zip (blkArgs l x)).foldl (fun t (p, v) => t.setIfInBounds p v) #[sv, undef, .pointer (some ⟨w.heap.size, 0, none⟩), .pointer (some ⟨g11, 0, none⟩), .nilIface, .pointer (some ⟨g24, 0, none⟩), .pointer (some ⟨g35, 0, none⟩), undef, undef, sv, .nilIface, .nilIface, .bool false, undef, undef, undef, sv, .func (.func 32) #[] #[.pointer (some ⟨g48, 0, none⟩)], undef, undef, undef, undef, undef, undef, undef, undef, undef, undef, undef, undef, undef, undef] = #[sv, undef, .pointer (some ⟨w.heap.size, 0, none⟩), .pointer (some ⟨g11, 0, none⟩), .nilIface, .pointer (some ⟨g24, 0, none⟩), .pointer (some ⟨g35, 0, none⟩), undef, undef, sv, .nilIface, .nilIface, .bool false, undef, undef, undef, sv, .func (.func 32) #[] #[.pointer (some ⟨g48, 0, none⟩)], .int .i64 (x.1 : Int), .agg ((l.get x).1.arr (l.get x).2), undef, undef, undef, undef, undef, undef, undef, undef, undef, undef, undef, undef] from by simp [blkArgs]]
    refine alloc_g zero30b rfl ?_
    intro wa hA hb hl
    try simp only [Act.put, List.setIfInBounds_toArray, List.set_cons_succ, List.set_cons_zero]
    clear hl
    refine store_all (cs := (l.get x).1.arr (l.get x).2) hA (same30 HNW.out HW.out _ _) (info30s HW.out _) (Bk.arr_one (slice_one HLN.out)) rfl rfl rfl ?_
    intro wb hD hO hlD
    try simp only [Act.put, List.setIfInBounds_toArray, List.set_cons_succ, List.set_cons_zero]
    clear hlD hA
    have hbb : Below W.heap.size W wb := hb.trans (hO.below hb.size fun k hk => Nat.le_of_eq hk.symm)
    clear hb hO
    refine wpList_nil ?_
    have h0 := I4.out.lt
    refine HK.out _ _ (keeps_of_below hbb) ⟨hbb.mono HB.out.size, ?_⟩ ⟨⟨I1.out.below hbb I1.out.lt, I2.out.below hbb I2.out.lt, I3.out.below hbb I3.out.lt, I4.out.below hbb I4.out.lt⟩, HB.out.trans (hbb.mono HB.out.size), Nat.le_trans hZ hbb.size⟩ ⟨W.heap.size, hZ, hD, rfl⟩
    exact hbb.block _ (Nat.lt_of_lt_of_le F47.out.lt hZ)
  case body =>
    rintro lr pre x a' W _ _ ⟨⟨i1, i2, i3, i4⟩, hB, hZ⟩ ⟨Bx, hBx, bX, rfl⟩ _
    obtain ⟨x1, x2⟩ := blks_at HBS.out x
    obtain ⟨id, lst, hok⟩ := chain_at HOK.out x
    have HPP := Lib.hid (pp_page HOK.out HBS.out.wf pre).length
    have HOV := Lib.hid (over_page hok x1 (pp_page HOK.out HBS.out.wf pre)).length
    have HFT : Hid (¬ (l.get x).1.kind = 1 → Fits (l.get x).1.off (l.get x).1.bytes) := Lib.hid fun k => okAt_fits hok k
    rw [show ownPostG w36.heap.size (KB w.heap.size g48) = ownPostG w36.heap.size (KB w.heap.size g48) from rfl]
    have HSN := Lib.hid (pp_snoc l pre x)
    obtain ⟨b, hb⟩ : ∃ b, (l.get x).1 = b := ⟨_, rfl⟩
    obtain ⟨bv, hbv⟩ : ∃ bv, (l.get x).2 = bv := ⟨_, rfl⟩
    rw [hb] at x1 x2 bX HOV HFT HSN hok
    rw [hbv] at x2 bX
    rw [hb, hbv]
    have HW := Lib.hid x1
    have HLN := Lib.hid x2.len
    have HBY := Lib.hid x2
    have I1 := Lib.hid i1
    have I2 := Lib.hid i2
    have I3 := Lib.hid i3
    have I4 := Lib.hid i4
    have IX := Lib.hid bX
    have HB := Lib.hid hB
    have RK0 : Hid (RK w36.heap.size w.heap.size g48 W W) := Lib.hid (RK.refl (Nat.lt_of_lt_of_le F47.out.lt hZ) hB.size)
    have HX5 : Hid (g24 ≠ Bx) := Lib.hid (by have := F45.out.lt; omega)
    have HX6 : Hid (g35 ≠ Bx) := Lib.hid (by have := F46.out.lt; omega)
    have HX2 : Hid (w.heap.size ≠ Bx) := Lib.hid (by have := F43.out.lt; omega)
    have HX3 : Hid (g11 ≠ Bx) := Lib.hid (by have := F44.out.lt; omega)
    have HGX : Hid (w.heap.size ≤ Bx) := Lib.hid (Nat.le_trans F42.out.size hBx)
    generalize hpp : pp l pre = q at *
    generalize hov : b.over q = q' at *
    clear x1 x2 i1 i2 i3 i4 bX hB hok hb hbv
    refine wpIn_block ?_
    refine wpIn_seq ?_
    refine regionIn_of (fun ⟨_, _, h⟩ => h) (noDefer_all rfl) ?_
    refine load26 (cs := (u8s q).toArray) (Blk.all I1.out rfl) (by rw [u8s_size, HPP.out]) rfl rfl ?_
    try simp only [Act.put, List.setIfInBounds_toArray, List.set_cons_succ, List.set_cons_zero]
    refine load30 (cs := (b.arr bv)) (Blk.all IX.out rfl) (b.arr_size HW.out bv) rfl rfl ?_
    try simp only [Act.put, List.setIfInBounds_toArray, List.set_cons_succ, List.set_cons_zero]
    have hq := over_any q HPP.out b bv HW.out HFT.out _ (HBY.out.below HB.out) (HEV.out.below (Nat.le_refl _) HB.out)
    rw [hov] at hq
    refine wpList_op rfl fun K hK => ?_
    go_simp
    refine hq.mono ?_
    clear hq
    rintro e w49 ⟨rfl, hb⟩
    have F50 := Lib.hid (I1.out.below hb I1.out.lt)
    have F51 := Lib.hid (I2.out.below hb I2.out.lt)
    have F52 := Lib.hid (I3.out.below hb I3.out.lt)
    have F53 := Lib.hid (I4.out.below hb I4.out.lt)
    have F54 := Lib.hid (IX.out.below hb IX.out.lt)
    have F55 := Lib.hid (HB.out.trans (hb.mono HB.out.size))
    have F56 := Lib.hid (RK0.out.below hb)
    clear I1 I2 I3 I4 IX HB RK0
    clear hb
    refine hK _ _ ?_
    clear hK K
    try simp only [Act.put, List.setIfInBounds_toArray, List.set_cons_succ, List.set_cons_zero]
    refine takeL (.tuple #[.agg (u8s q').toArray, .nilIface]) rfl (by go_simp) ?_
    try simp only [Act.put, List.setIfInBounds_toArray, List.set_cons_succ, List.set_cons_zero]
    refine takeL (.agg (u8s q').toArray) rfl (by go_simp) ?_
    try simp only [Act.put, List.setIfInBounds_toArray, List.set_cons_succ, List.set_cons_zero]
    refine takeL (.nilIface) rfl (by go_simp) ?_
    try simp only [Act.put, List.setIfInBounds_toArray, List.set_cons_succ, List.set_cons_zero]
    refine store_all (cs := (u8s q').toArray) F50.out (by simp only [u8s_size, List.size_toArray, List.length_append, List.length_singleton, List.length_map, HOV.out, HPP.out]) (by rw [u8s_size, HOV.out]; exact info26) (u8s_one _) rfl rfl rfl ?_
    intro w57 hD hO hlD
    try simp only [Act.put, List.setIfInBounds_toArray, List.set_cons_succ, List.set_cons_zero]
    clear hlD
    have F58 := Lib.hid (F51.out.only hO (HN28.out.symm))
    have F59 := Lib.hid (F52.out.only hO (HN17.out))
    have F60 := Lib.hid (F53.out.only hO (HN18.out))
    have F61 := Lib.hid (F54.out.only hO (HX5.out.symm))
    have F62 := Lib.hid (F55.out.trans (hO.below F55.out.size (fun k hk => by rw [hk]; exact HG19.out)))
    have F63 := Lib.hid (F56.out.only hO F50.out (HN39.out.symm) HG19.out)
    clear F51 F52 F53 F54 F55 F56 F50
    have I1' : Hid (Blk w57 g24 (u8s q')) := Lib.hid hD
    clear hD hO
    refine store_one (v := .nilIface) F58.out size44 rfl rfl rfl rfl rfl ?_
    intro w64 hD hO
    try simp only [Act.put, List.setIfInBounds_toArray, List.set_cons_succ, List.set_cons_zero]
    have F65 := Lib.hid (F59.out.only hO (HN26.out))
    have F66 := Lib.hid (F60.out.only hO (HN27.out))
    have F67 := Lib.hid (F61.out.only hO (HX6.out.symm))
    have F68 := Lib.hid (F62.out.trans (hO.below F62.out.size (fun k hk => by rw [hk]; exact HG29.out)))
    have F69 := Lib.hid (F63.out.only hO F58.out (HN40.out.symm) HG29.out)
    have F70 := Lib.hid (I1'.out.only hO (HN28.out))
    clear F59 F60 F61 F62 F63 I1' F58
    have I2' : Hid (Blk w64 g35 [.nilIface]) := Lib.hid hD
    clear hD hO
    refine wpList_nil ?_
    refine wpIn_seq ?_
    refine regionIn_of (fun ⟨_, _, h⟩ => h) (noDefer_all rfl) ?_
    refine takeL (.nilIface) rfl (by have hq := I2'.out.cell (i := 0) (v := .nilIface) rfl; go_simp) ?_
    try simp only [Act.put, List.setIfInBounds_toArray, List.set_cons_succ, List.set_cons_zero]
    refine takeL (.bool false) rfl (by go_simp) ?_
    try simp only [Act.put, List.setIfInBounds_toArray, List.set_cons_succ, List.set_cons_zero]
    refine wpList_nil ?_
    refine wpIn_cond_false rfl ?_
    refine wpIn_skip ?_
    exact ⟨F69.out.keeps, F69.out.kb, ⟨by rw [HSN.out]; exact F70.out, I2'.out, F65.out, F66.out⟩, F68.out, Nat.le_trans hZ F69.out.keeps.size⟩
  case done =>
    rintro D xs W hD hS ⟨⟨i1, i2, i3, i4⟩, hB, hZ⟩ hK
    have HPP := Lib.hid (pp_page HOK.out HBS.out.wf xs).length
    rw [pp_all hS] at i1 HPP
    obtain ⟨q, hq⟩ : ∃ q, comes (l.map (·.1)) = q := ⟨_, rfl⟩
    rw [hq] at i1 HPP
    have HQ := Lib.hid hq
    clear hq
    have I1 := Lib.hid i1
    have I2 := Lib.hid i2
    have I3 := Lib.hid i3
    have I4 := Lib.hid i4
    have HB := Lib.hid hB
    have RK0 : Hid (RK w36.heap.size w.heap.size g48 W W) := Lib.hid (RK.refl (Nat.lt_of_lt_of_le F47.out.lt hZ) hB.size)
    clear i1 i2 i3 i4 hB
    refine hK1 _ _ ?_
    refine wp_seq ?_
    refine wp_region_lit ?_
    refine load26 (cs := (u8s q).toArray) (Blk.all I1.out rfl) (by rw [u8s_size, HPP.out]) rfl rfl ?_
    try simp only [Act.put, List.setIfInBounds_toArray, List.set_cons_succ, List.set_cons_zero]
    refine store_all (cs := (u8s q).toArray) I3.out (by simp only [u8s_size, List.size_toArray, List.length_append, List.length_singleton, List.length_map, HPP.out, HZ32.out]) (by rw [u8s_size, HPP.out]; exact info26) (u8s_one _) rfl rfl rfl ?_
    intro w49 hD hO hlD
    try simp only [Act.put, List.setIfInBounds_toArray, List.set_cons_succ, List.set_cons_zero]
    clear hlD
    have F50 := Lib.hid (I1.out.only hO (HN17.out.symm))
    have F51 := Lib.hid (I2.out.only hO (HN26.out.symm))
    have F52 := Lib.hid (I4.out.only hO (HN6.out.symm))
    have F53 := Lib.hid (HB.out.trans (hO.below HB.out.size (fun k hk => by rw [hk]; exact HG2.out)))
    have F54 := Lib.hid (RK0.out.only hO I3.out (HN37.out.symm) HG2.out)
    clear I1 I2 I4 HB RK0 I3
    have I3' : Hid (Blk w49 w.heap.size (u8s q)) := Lib.hid hD
    clear hD hO
    refine store_one (v := Value.nilIface) F52.out size44 rfl rfl rfl rfl rfl ?_
    intro w55 hD hO
    try simp only [Act.put, List.setIfInBounds_toArray, List.set_cons_succ, List.set_cons_zero]
    have F56 := Lib.hid (F50.out.only hO (HN18.out.symm))
    have F57 := Lib.hid (F51.out.only hO (HN27.out.symm))
    have F58 := Lib.hid (F53.out.trans (hO.below F53.out.size (fun k hk => by rw [hk]; exact HG7.out)))
    have F59 := Lib.hid (F54.out.only hO F52.out (HN38.out.symm) HG7.out)
    have F60 := Lib.hid (I3'.out.only hO (HN6.out))
    clear F50 F51 F53 F54 I3' F52
    have I4' : Hid (Blk w55 g11 [Value.nilIface]) := Lib.hid hD
    clear hD hO
    refine wpList_nil ?_
    have hK' := F59.out.keeps.same D _ hD hK rfl
    refine wp_ret ?_
    refine ⟨by simp, .inl ⟨_, _, rfl, run_takeDeferred hK', ?_⟩⟩
    have hg : ∀ r, some D = some r → ∃ o : Obj, w55.heap[r]? = some o ∧ o.isCells = false := fun r e => by cases e; exact ⟨_, hK', rfl⟩
    exact ⟨_, results_two rfl _ _ w.heap.size g11 _ _ rfl rfl (F60.out.kept (grownBy_putObj' _ D (.deferred none)) hg) HPP.out (I4'.out.kept (grownBy_putObj' _ D (.deferred none)) hg), by rw [HQ.out], F58.out.trans (belowK_b (w := w36) F42.out.size w55 D _ _ hD hK' rfl rfl)⟩
set_option maxRecDepth 100000 in
set_option maxHeartbeats 1000000 in
theorem page_yes (l : List (Bk × Value)) (hok : isChain (l.map (·.1)) = true) (sv : Value) (w : World) (h : BlksAt w sv l) (hev : ErrVar w) : Calls Tryd.prog 8 #[sv] w fun e w' => e = .returned (.tuple #[.agg (u8s (comes (l.map (·.1)))).toArray, .int .i64 0]) ∧ Below w.heap.size w w' := by
  have HZ32 := Lib.hid (zeros_length 32)
  have HBL : Hid (Below w.heap.size w w) := Lib.hid (Below.refl _ _)
  have HBS := Lib.hid h
  have HOK := Lib.hid hok
  obtain ⟨sa, sc, he, -⟩ := h
  have HE := Lib.hid he
  clear he
  have HEV := Lib.hid hev
  have HPP := Lib.hid (isChain_page hok HBS.out.wf).length
  obtain ⟨q, hq⟩ : ∃ q, comes (l.map (·.1)) = q := ⟨_, rfl⟩
  rw [hq] at HPP ⊢
  have HQ := Lib.hid hq
  clear hok hev hq
  go_enter Tryd.func8, Tryd.ntmps8
  go_upto_region 0 with fail
  refine wp_region_lit ?_
  refine alloc_g zero26 rfl ?_
  intro w1 hA hb hl
  try simp only [Act.put, List.setIfInBounds_toArray, List.set_cons_succ, List.set_cons_zero]
  clear hl
  have HG2 : Hid (w.heap.size ≤ w.heap.size) := Lib.hid HBL.out.size
  have F3 := Lib.hid (HBL.out.trans (hb.mono HBL.out.size))
  clear HBL
  have F4 : Hid (Blk w1 w.heap.size (u8s (zeros 32))) := Lib.hid hA
  clear hA hb
  refine takeL (.int .i64 0) rfl (by go_simp) ?_
  try simp only [Act.put, List.setIfInBounds_toArray, List.set_cons_succ, List.set_cons_zero]
  refine wpList_nil ?_
  go_upto_region 1 with fail
  refine wp_region_lit ?_
  refine takeL (sv) rfl (by have hq := HE.out; rw [hq]; go_simp) ?_
  try simp only [Act.put, List.setIfInBounds_toArray, List.set_cons_succ, List.set_cons_zero]
  have hq := folded_yes l HOK.out sv _ (HBS.out.below F3.out) (HEV.out.below (Nat.le_refl _) F3.out)
  rw [HQ.out] at hq
  refine wpList_op rfl fun K hK => ?_
  go_simp
  refine hq.mono ?_
  clear hq
  rintro e w5 ⟨rfl, hb⟩
  have F6 := Lib.hid (F3.out.trans (hb.mono F3.out.size))
  have F7 := Lib.hid (F4.out.below hb F4.out.lt)
  clear F3 F4
  clear hb
  refine hK _ _ ?_
  clear hK K
  try simp only [Act.put, List.setIfInBounds_toArray, List.set_cons_succ, List.set_cons_zero]
  refine takeL (.tuple #[.agg (u8s q).toArray, .nilIface]) rfl (by go_simp) ?_
  try simp only [Act.put, List.setIfInBounds_toArray, List.set_cons_succ, List.set_cons_zero]
  refine takeL (.agg (u8s q).toArray) rfl (by go_simp) ?_
  try simp only [Act.put, List.setIfInBounds_toArray, List.set_cons_succ, List.set_cons_zero]
  refine takeL (.nilIface) rfl (by go_simp) ?_
  try simp only [Act.put, List.setIfInBounds_toArray, List.set_cons_succ, List.set_cons_zero]
  refine alloc_g zero26 rfl ?_
  intro w8 hA hb hl
  try simp only [Act.put, List.setIfInBounds_toArray, List.set_cons_succ, List.set_cons_zero]
  clear hl
  refine store_all (cs := (u8s q).toArray) hA (by simp only [u8s_size, List.size_toArray, List.length_append, List.length_singleton, List.length_map, HPP.out, HZ32.out]) (by rw [u8s_size, HPP.out]; exact info26) (u8s_one _) rfl rfl rfl ?_
  intro w9 hD hO hlD
  try simp only [Act.put, List.setIfInBounds_toArray, List.set_cons_succ, List.set_cons_zero]
  clear hlD hA
  have hbb : Below w5.heap.size w5 w9 := hb.trans (hO.below hb.size fun k hk => Nat.le_of_eq hk.symm)
  clear hb hO
  have HN10 := Lib.hid (Nat.ne_of_lt F7.out.lt)
  have HG11 : Hid (w.heap.size ≤ w5.heap.size) := Lib.hid F6.out.size
  have F12 := Lib.hid (F6.out.trans (hbb.mono F6.out.size))
  have F13 := Lib.hid (F7.out.below hbb F7.out.lt)
  clear F6 F7
  have F14 : Hid (Blk w9 w5.heap.size (u8s q)) := Lib.hid hD
  clear hD hbb w8
  generalize w5.heap.size = g15 at *
  clear w5
  refine takeL (.nilIface) rfl (by go_simp) ?_
  try simp only [Act.put, List.setIfInBounds_toArray, List.set_cons_succ, List.set_cons_zero]
  refine wpList_nil ?_
  go_upto_region 2 with fail
  refine wp_region_lit ?_
  refine takeL (.nilIface) rfl (by go_simp) ?_
  try simp only [Act.put, List.setIfInBounds_toArray, List.set_cons_succ, List.set_cons_zero]
  refine wpList_op rfl fun K hK => ?_
  go_simp
  refine (is_nil 11 false rfl _).mono ?_
  rintro e w16 ⟨rfl, hb⟩
  have F17 := Lib.hid (F12.out.trans (hb.mono F12.out.size))
  have F18 := Lib.hid (F13.out.below hb F13.out.lt)
  have F19 := Lib.hid (F14.out.below hb F14.out.lt)
  clear F12 F13 F14
  clear hb
  refine hK _ _ ?_
  clear hK K
  try simp only [Act.put, List.setIfInBounds_toArray, List.set_cons_succ, List.set_cons_zero]
  refine wpList_nil ?_
  go_upto_region 4 with fail
  refine wp_region_lit ?_
  refine load26 (cs := (u8s q).toArray) (Blk.all F19.out rfl) (by rw [u8s_size, HPP.out]) rfl rfl ?_
  try simp only [Act.put, List.setIfInBounds_toArray, List.set_cons_succ, List.set_cons_zero]
  refine store_all (cs := (u8s q).toArray) F18.out (by simp only [u8s_size, List.size_toArray, List.length_append, List.length_singleton, List.length_map, HPP.out, HZ32.out]) (by rw [u8s_size, HPP.out]; exact info26) (u8s_one _) rfl rfl rfl ?_
  intro w20 hD hO hlD
  try simp only [Act.put, List.setIfInBounds_toArray, List.set_cons_succ, List.set_cons_zero]
  clear hlD
  have F21 := Lib.hid (F17.out.trans (hO.below F17.out.size (fun k hk => by rw [hk]; exact HG2.out)))
  have F22 := Lib.hid (F19.out.only hO (HN10.out.symm))
  clear F17 F19 F18
  have F4' : Hid (Blk w20 w.heap.size (u8s q)) := Lib.hid hD
  clear hD hO
  refine takeL (.int .i64 0) rfl (by go_simp) ?_
  try simp only [Act.put, List.setIfInBounds_toArray, List.set_cons_succ, List.set_cons_zero]
  refine wpList_nil ?_
  go_wp2_with fail
  exact bodyPost_ret (v := .tuple #[.agg (u8s q).toArray, .int .i64 0]) (results_cell_tmp rfl _ _ w.heap.size 0 _ _ _ rfl rfl Tryd.underlying26 rfl (by rw [u8s_size, HPP.out]; exact info26) (Blk.all F4'.out rfl)) rfl ⟨rfl, F21.out⟩
set_option maxRecDepth 100000 in
set_option maxHeartbeats 1000000 in
theorem page_no (l : List (Bk × Value)) (hok : isChain (l.map (·.1)) = false) (sv : Value) (w : World) (h : BlksAt w sv l) : Calls Tryd.prog 8 #[sv] w fun e w' => e = .returned (.tuple #[.agg (u8s (zeros 32)).toArray, .int .i64 11]) ∧ Below w.heap.size w w' := by
  have HZ32 := Lib.hid (zeros_length 32)
  have HBL : Hid (Below w.heap.size w w) := Lib.hid (Below.refl _ _)
  have HBS := Lib.hid h
  have HOK := Lib.hid hok
  obtain ⟨sa, sc, he, -⟩ := h
  have HE := Lib.hid he
  clear he
  clear hok
  go_enter Tryd.func8, Tryd.ntmps8
  go_upto_region 0 with fail
  refine wp_region_lit ?_
  refine alloc_g zero26 rfl ?_
  intro w1 hA hb hl
  try simp only [Act.put, List.setIfInBounds_toArray, List.set_cons_succ, List.set_cons_zero]
  clear hl
  have HG2 : Hid (w.heap.size ≤ w.heap.size) := Lib.hid HBL.out.size
  have F3 := Lib.hid (HBL.out.trans (hb.mono HBL.out.size))
  clear HBL
  have F4 : Hid (Blk w1 w.heap.size (u8s (zeros 32))) := Lib.hid hA
  clear hA hb
  refine takeL (.int .i64 0) rfl (by go_simp) ?_
  try simp only [Act.put, List.setIfInBounds_toArray, List.set_cons_succ, List.set_cons_zero]
  refine wpList_nil ?_
  go_upto_region 1 with fail
  refine wp_region_lit ?_
  refine takeL (sv) rfl (by have hq := HE.out; rw [hq]; go_simp) ?_
  try simp only [Act.put, List.setIfInBounds_toArray, List.set_cons_succ, List.set_cons_zero]
  refine wpList_op rfl fun K hK => ?_
  go_simp
  refine (folded_no l HOK.out sv _ (HBS.out.below F3.out)).mono ?_
  rintro e w5 ⟨Tw5, dw5, tw5, tsw5, rfl, hc, hb⟩
  have F6 := Lib.hid (F3.out.trans (hb.mono F3.out.size))
  have F7 := Lib.hid (F4.out.below hb F4.out.lt)
  clear F3 F4
  have F8 := Lib.hid hc
  clear hb hc
  refine hK _ _ ?_
  clear hK K
  try simp only [Act.put, List.setIfInBounds_toArray, List.set_cons_succ, List.set_cons_zero]
  refine takeL (.tuple #[.agg (u8s (zeros 32)).toArray, .iface Tw5 dw5]) rfl (by go_simp) ?_
  try simp only [Act.put, List.setIfInBounds_toArray, List.set_cons_succ, List.set_cons_zero]
  refine takeL (.agg (u8s (zeros 32)).toArray) rfl (by go_simp) ?_
  try simp only [Act.put, List.setIfInBounds_toArray, List.set_cons_succ, List.set_cons_zero]
  refine takeL (.iface Tw5 dw5) rfl (by go_simp) ?_
  try simp only [Act.put, List.setIfInBounds_toArray, List.set_cons_succ, List.set_cons_zero]
  refine alloc_g zero26 rfl ?_
  intro w9 hA hb hl
  try simp only [Act.put, List.setIfInBounds_toArray, List.set_cons_succ, List.set_cons_zero]
  clear hl
  refine store_all (cs := (u8s (zeros 32)).toArray) hA (by simp only [u8s_size, List.size_toArray, List.length_append, List.length_singleton, List.length_map, HZ32.out]) (by rw [u8s_size, HZ32.out]; exact info26) (u8s_one _) rfl rfl rfl ?_
  intro w10 hD hO hlD
  try simp only [Act.put, List.setIfInBounds_toArray, List.set_cons_succ, List.set_cons_zero]
  clear hlD hA
  have hbb : Below w5.heap.size w5 w10 := hb.trans (hO.below hb.size fun k hk => Nat.le_of_eq hk.symm)
  clear hb hO
  have HN11 := Lib.hid (Nat.ne_of_lt F7.out.lt)
  have HG12 : Hid (w.heap.size ≤ w5.heap.size) := Lib.hid F6.out.size
  have F13 := Lib.hid (F6.out.trans (hbb.mono F6.out.size))
  have F14 := Lib.hid (F7.out.below hbb F7.out.lt)
  have F15 := Lib.hid (F8.out.below (Nat.le_refl _) hbb)
  clear F6 F7 F8
  have F16 : Hid (Blk w10 w5.heap.size (u8s (zeros 32))) := Lib.hid hD
  clear hD hbb w9
  generalize w5.heap.size = g17 at *
  clear w5
  refine takeL (.iface Tw5 dw5) rfl (by go_simp) ?_
  try simp only [Act.put, List.setIfInBounds_toArray, List.set_cons_succ, List.set_cons_zero]
  refine wpList_nil ?_
  go_upto_region 2 with fail
  refine wp_region_lit ?_
  refine takeL (.iface Tw5 dw5) rfl (by go_simp) ?_
  try simp only [Act.put, List.setIfInBounds_toArray, List.set_cons_succ, List.set_cons_zero]
  refine wpList_op rfl fun K hK => ?_
  go_simp
  refine (is_num 11 11 true rfl _ _ _ _ F15.out).mono ?_
  rintro e w18 ⟨rfl, hb⟩
  have F19 := Lib.hid (F13.out.trans (hb.mono F13.out.size))
  have F20 := Lib.hid (F14.out.below hb F14.out.lt)
  have F21 := Lib.hid (F15.out.below (Nat.le_refl _) hb)
  have F22 := Lib.hid (F16.out.below hb F16.out.lt)
  clear F13 F14 F15 F16
  clear hb
  refine hK _ _ ?_
  clear hK K
  try simp only [Act.put, List.setIfInBounds_toArray, List.set_cons_succ, List.set_cons_zero]
  refine wpList_nil ?_
  go_upto_region 3 with fail
  refine wp_region_lit ?_
  refine build_g (build26 _) rfl ?_
  try simp only [Act.put, List.setIfInBounds_toArray, List.set_cons_succ, List.set_cons_zero]
  refine store_all (cs := (u8s (zeros 32)).toArray) F20.out (by simp only [u8s_size, List.size_toArray, List.length_append, List.length_singleton, List.length_map, HZ32.out]) (by rw [u8s_size, HZ32.out]; exact info26) (u8s_one _) rfl rfl rfl ?_
  intro w23 hD hO hlD
  try simp only [Act.put, List.setIfInBounds_toArray, List.set_cons_succ, List.set_cons_zero]
  clear hlD
  have F24 := Lib.hid (F19.out.trans (hO.below F19.out.size (fun k hk => by rw [hk]; exact HG2.out)))
  have F25 := Lib.hid (F21.out.keep hO (Blk.noStr F20.out (u8s_noStr _)))
  have F26 := Lib.hid (F22.out.only hO (HN11.out.symm))
  clear F19 F21 F22 F20
  have F4' : Hid (Blk w23 w.heap.size (u8s (zeros 32))) := Lib.hid hD
  clear hD hO
  refine takeL (.int .i64 11) rfl (by go_simp) ?_
  try simp only [Act.put, List.setIfInBounds_toArray, List.set_cons_succ, List.set_cons_zero]
  refine wpList_nil ?_
  go_wp2_with fail
  exact bodyPost_ret (v := .tuple #[.agg (u8s (zeros 32)).toArray, .int .i64 11]) (results_cell_tmp rfl _ _ w.heap.size 0 _ _ _ rfl rfl Tryd.underlying26 rfl (by rw [u8s_size, HZ32.out]; exact info26) (Blk.all F4'.out rfl)) rfl ⟨rfl, F24.out⟩
end Go.Proofs.YtjejodgjakjeiaaDoor
