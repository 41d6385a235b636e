/- Gb: texts of elder seats turned: what the stage needs of them. -/
import Derived.Test.YthlnmdihdcfphaaGreatDoorGa
import Derived.Deep.Cut
import Derived.Deep.CutRange
import Derived.Deep.Upon
import Derived.Lib.AppendZeros
namespace Go.Proofs.YthlnmdihdcfphaaGreatDoor
set_option linter.unusedSimpArgs false
set_option linter.unusedVariables false
open Go.RowKit

/-- A slice whose values are l. -/
def BytesAt (w : World) (sv : Value) (l : List Int) : Prop := ∃ a cap, sv = .slice a l.length cap ∧ ∀ i x, l[i]? = some x → ∃ b o, a = some ⟨b, o, none⟩ ∧ w.cell? ⟨b, o + i, none⟩ = some (.int .u8 x)
theorem BytesAt.len {w : World} {sv : Value} {l : List Int} (h : BytesAt w sv l) : Len sv l.length := let ⟨a, cap, h, _⟩ := h; ⟨a, cap, h⟩
theorem BytesAt.below {w w' : World} {sv : Value} {l : List Int} (h : BytesAt w sv l) (hb : Below w.heap.size w w') : BytesAt w' sv l := by
  obtain ⟨a, cap, e, hc⟩ := h
  refine ⟨a, cap, e, fun i x hx => ?_⟩
  obtain ⟨b, o, e2, hx2⟩ := hc i x hx
  exact ⟨b, o, e2, (hb.cell (block_lt_of_cell hx2)).trans hx2⟩
theorem BytesAt.nil (w : World) (cap : Nat) (a : Option Addr) : BytesAt w (.slice a 0 cap) [] := ⟨a, cap, rfl, fun i x h => by simp at h⟩
theorem BytesAt.has {w : World} {sv : Value} {l : List Int} (h : BytesAt w sv l) (hl : 0 < l.length) : ∃ b o cap, sv = .slice (some ⟨b, o, none⟩) l.length cap ∧ ∀ i x, l[i]? = some x → w.cell? ⟨b, o + i, none⟩ = some (.int .u8 x) := by
  obtain ⟨a, cap, e, hc⟩ := h
  obtain ⟨b, o, e2, _⟩ := hc 0 l[0] (by simp [hl])
  subst e2
  refine ⟨b, o, cap, e, fun i x hx => ?_⟩
  obtain ⟨b', o', e3, hx2⟩ := hc i x hx
  cases e3
  exact hx2
theorem BAt.page_at {w : World} {g : Nat} {b : Bk} {sv : Value} (h : BAt w g b sv) (j : Nat) (v : Int) (hv : b.page[j]? = some v) : w.cell? ⟨g, 2 + j, none⟩ = some (.int .u8 v) := h.blk.cell (by
  rw [b.atP h.wf sv j (by have := (List.getElem?_eq_some_iff.1 hv).1; rwa [h.wf.page] at this), List.getElem?_map, hv]
  rfl)
theorem wrap8 {n : Int} (h0 : 0 ≤ n) (h1 : n < 256) : IntKind.u8.wrap n = n := by rw [IntKind.wrap_u8]; omega
theorem wrap32 {n : Int} (h0 : 0 ≤ n) (h1 : n < 4294967296) : IntKind.u32.wrap n = n := by rw [IntKind.wrap_u32]; omega
theorem wrap64 {n : Int} (h0 : 0 ≤ n) (h1 : n < 4294967296) : IntKind.i64.wrap n = n := by rw [IntKind.wrap_i64]; omega
/-- Numbers laid over L from o on. -/
def layI (L : List Int) (o : Nat) (bs : List Int) : List Int := L.take o ++ bs ++ L.drop (o + bs.length)
theorem lay_u8s (L : List Int) (o : Nat) (bs : List Int) : lay (u8s L) o bs = u8s (layI L o bs) := by simp [lay, layI]
theorem layI_length {L : List Int} {o : Nat} {bs : List Int} (h : o + bs.length ≤ L.length) : (layI L o bs).length = L.length := by
  simp [layI]
  omega
theorem layI_snoc {L : List Int} {o : Nat} {bs cs : List Int} (h : o + bs.length + cs.length ≤ L.length) : layI (layI L o bs) (o + bs.length) cs = layI L o (bs ++ cs) := by
  have h1 : (L.take o).length = o := by simp; omega
  have h2 : (L.take o ++ bs).length = o + bs.length := by simp; omega
  unfold layI
  rw [List.take_append_of_le_length (by omega), List.take_of_length_le (by omega), List.drop_append, List.drop_of_length_le (by omega), h2]
  simp only [List.nil_append, List.drop_drop, List.length_append, List.append_assoc]
  congr 4
  omega
theorem layI_front {H T bs : List Int} {o : Nat} (h : H.length = o) : layI (H ++ T) o bs = H ++ (bs ++ T.drop bs.length) := by
  subst h
  unfold layI
  rw [List.take_left', List.drop_append, List.drop_of_length_le (by omega)]
  · simp
  · rfl
theorem zeros_drop (n m : Nat) : (zeros n).drop m = zeros (n - m) := by simp [zeros]
theorem zeros_add (n m : Nat) : zeros (n + m) = zeros n ++ zeros m := by simp [zeros]
theorem delta_laid (i n off prev : Int) (l : List Int) (h : l.length ≤ 16) : layI (layI (((layI (2 :: i :: zeros 62) 2 (le 4 n)).set 6 off).set 7 l.length) 8 l) 24 (le 2 prev) =
    2 :: i :: (le 4 n ++ (off :: l.length :: (l ++ (zeros (16 - l.length) ++ (le 2 prev ++ zeros 38))))) := by
  have e : ((layI (2 :: i :: zeros 62) 2 (le 4 n)).set 6 off).set 7 l.length = ([2, i, n % 256, n / 256 % 256, n / 256 / 256 % 256, n / 256 / 256 / 256 % 256, off, l.length] : List Int) ++ zeros 56 := by simp [layI, le, zeros]
  rw [e, layI_front (o := 8) (by rfl), zeros_drop, show 56 - l.length = (16 - l.length) + 40 by omega, zeros_add, ← List.append_assoc l, ← List.append_assoc _ _ (zeros 40), layI_front (o := 24) (by simp [zeros]; omega), zeros_drop, le_length]
  simp [le]
theorem layI_nil (L : List Int) (o : Nat) : layI L o [] = L := by simp [layI]
/-- A block in a variable (g), the result's variable (r), both made behind W. -/
structure ES (W w : World) (g r : Nat) (b : Bk) (sv : Value) : Prop where
  bat : BAt w g b sv
  res : Blk w r (u8s (zeros 64))
  bel : Below W.heap.size W w
  g0 : W.heap.size ≤ g
  gr : g < r
theorem ES.below {W w w' : World} {g r : Nat} {b : Bk} {sv : Value} (h : ES W w g r b sv) (hb : Below w.heap.size w w') : ES W w' g r b sv :=
  ⟨h.bat.below hb h.bat.lt, h.res.below hb h.res.lt, h.bel.trans (hb.mono h.bel.size), h.g0, h.gr⟩
/-- And the sector (s). -/
structure ET (W w : World) (g r s : Nat) (b : Bk) (sv : Value) (L : List Int) : Prop where
  es : ES W w g r b sv
  sec : Blk w s (u8s L)
  rs : r < s
theorem ET.below {W w w' : World} {g r s : Nat} {b : Bk} {sv : Value} {L : List Int} (h : ET W w g r s b sv L) (hb : Below w.heap.size w w') : ET W w' g r s b sv L :=
  ⟨h.es.below hb, h.sec.below hb h.sec.lt, h.rs⟩
theorem ET.drew {W w : World} {g r s : Nat} {b : Bk} {sv : Value} {L : List Int} (h : ET W w g r s b sv L) : ET W w.drew g r s b sv L := h.below (Below.refl _ _).drew
theorem ET.put {W w w' : World} {g r s : Nat} {b : Bk} {sv : Value} {L M : List Int} (h : ET W w g r s b sv L) (hs : Blk w' s (u8s M)) (ho : Only (fun k => k = s) w w') : ET W w' g r s b sv M :=
  ⟨⟨⟨h.es.bat.blk.only ho (by have := h.rs; have := h.es.gr; omega), h.es.bat.wf⟩, h.es.res.only ho (by have := h.rs; omega), h.es.bel.trans (ho.below h.es.bel.size (fun k hk => by have := h.es.g0; have := h.es.gr; have := h.rs; omega)), h.es.g0, h.es.gr⟩, hs, h.rs⟩
theorem ET.set {W w : World} {g r s : Nat} {b : Bk} {sv : Value} {L : List Int} (h : ET W w g r s b sv L) (i : Nat) (x : Int) : ET W (w.setCell ⟨s, i, none⟩ (.int .u8 x)) g r s b sv (L.set i x) :=
  h.put (by have := h.sec.set i (.int .u8 x); rwa [← List.map_set] at this) ((Only.refl (fun k => k = s) w).setCell (p := ⟨s, i, none⟩) (.inl rfl) _)
section
variable {P : Program}
theorem wp_run {o : Oper} {a : Act} {w : World} {K : Act → World → Prop} {Q : Exit → Act → World → Prop} (v : Value) (w' : World) (hr : (execOp a.eval o).run P w = .ok (.value v) w') (h : K (a.put o.dst v) w') : o.wp P a w K Q := by
  unfold Oper.wp
  rw [hr]
  exact h
/-- A copy of l into block g, from o on. -/
theorem exec_copy (w : World) (ev : Operand → Value) (op : Oper) (x y : Operand) (ho : op.op = .call { callee := .builtin .copy, args := #[x, y], argTypes := #[25, 25] }) (hu : P.underlying 25 = some (.slice 5)) (hs : (P.info? 5).map (·.size) = some 1)
    (g o dLen dCap : Nat) (ab ao sLen sCap : Nat) (hx : ev x = .slice (some ⟨g, o, none⟩) dLen dCap) (hy : ev y = .slice (some ⟨ab, ao, none⟩) sLen sCap) (L : List Value) (l : List Int)
    (hg : Blk w g L) (hn : l.length = Nat.min sLen dLen) (hsrc : ∀ j v, l[j]? = some v → w.cell? ⟨ab, ao + j, none⟩ = some (.int .u8 v)) (hfit : o + l.length ≤ L.length) :
    ∃ w', (execOp ev op).run P w = .ok (.value (goInt l.length)) w' ∧ Blk w' g (lay L o l) ∧ Only (fun k => k = g) w w' := by
  have hg' := hg
  obtain ⟨t, ht⟩ := hg
  refine ⟨w.setRow g (lay L o l).toArray, ?_, ?_, ?_⟩
  · unfold execOp
    have := run_copy_row P w 25 25 op.type 5 g o dLen dCap ⟨ab, ao, none⟩ sLen sCap L.toArray t (l.map (Value.int .u8)) hu hs ht (by simpa using hn) (fun j v hv => by
      rw [List.getElem?_map] at hv
      cases e : l[j]? with
      | none => simp [e] at hv
      | some z =>
        simp [e] at hv
        subst hv
        have := hsrc j z e
        rwa [show (⟨ab, ao, none⟩ : Addr).add j = ⟨ab, ao + j, none⟩ by unfold Addr.add; split <;> simp_all]) (by simpa using hfit) (fun v hv => by
      obtain ⟨z, _, rfl⟩ := List.mem_map.1 hv
      rfl)
    simp only [ho, resolve, invoke, builtin, Sem.run_bind, Sem.run_pure, Result.andThen_ok, List.map_toArray, List.map_cons, List.map_nil, hx, hy, this]
    simp [lay]
  · exact hg'.row _
  · exact (Only.refl (fun k => k = g) w).setRow (.inl rfl) _
theorem wp_copy {op : Oper} {a : Act} {w : World} {K : Act → World → Prop} {Q : Exit → Act → World → Prop} (x y : Operand) (ho : op.op = .call { callee := .builtin .copy, args := #[x, y], argTypes := #[25, 25] }) (hu : P.underlying 25 = some (.slice 5)) (hs : (P.info? 5).map (·.size) = some 1)
    (g o dLen dCap : Nat) (ab ao sLen sCap : Nat) (hx : a.eval x = .slice (some ⟨g, o, none⟩) dLen dCap) (hy : a.eval y = .slice (some ⟨ab, ao, none⟩) sLen sCap) (L : List Value) (l : List Int)
    (hg : Blk w g L) (hn : l.length = Nat.min sLen dLen) (hsrc : ∀ j v, l[j]? = some v → w.cell? ⟨ab, ao + j, none⟩ = some (.int .u8 v)) (hfit : o + l.length ≤ L.length)
    (dst : Option Tmp) (hd : op.dst = dst) (h : ∀ w', Blk w' g (lay L o l) → Only (fun k => k = g) w w' → K (a.put dst (.int .i64 l.length)) w') : op.wp P a w K Q := by
  subst hd
  obtain ⟨w', hr, hb, hO⟩ := exec_copy w a.eval op x y ho hu hs g o dLen dCap ab ao sLen sCap hx hy L l hg hn hsrc hfit
  exact wp_run _ w' hr (h w' hb hO)
theorem results_cell_at {fn : Func} {p : Tmp} {ty : TypeId} (h : fn.results = #[.cell p ty]) (tmps : Array Value) (w : World) (g off : Nat) (cs : Array Value) (d : TypeDesc)
    (hp : tmps.getD p undef = .pointer (some ⟨g, off, none⟩)) (hu : P.underlying ty = some d) (hd : (match d with | .struct _ | .array _ _ => true | _ => false) = true) (hi : (P.info? ty).map (·.size) = some cs.size)
    (hc : ∀ j (h : j < cs.size), w.cell? ⟨g, off + j, none⟩ = some cs[j]) :
    (results fn tmps).run P w = .ok (.agg cs) w := by
  have hp' : tmps[p]?.getD undef = .pointer (some ⟨g, off, none⟩) := by simpa using hp
  simp [results, h, hp', asAddr, run_load_at w g off ty cs d hu hd hi hc]
theorem results_cell_tmp {fn : Func} {p q : Tmp} {ty : TypeId} (h : fn.results = #[.cell p ty, .tmp q]) (tmps : Array Value) (w : World) (g off : Nat) (cs : Array Value) (d : TypeDesc) (v : Value)
    (hp : tmps.getD p undef = .pointer (some ⟨g, off, none⟩)) (hv : tmps.getD q undef = v) (hu : P.underlying ty = some d) (hd : (match d with | .struct _ | .array _ _ => true | _ => false) = true) (hi : (P.info? ty).map (·.size) = some cs.size)
    (hc : ∀ j (h : j < cs.size), w.cell? ⟨g, off + j, none⟩ = some cs[j]) :
    (results fn tmps).run P w = .ok (.tuple #[.agg cs, v]) w := by
  have hp' : tmps[p]?.getD undef = .pointer (some ⟨g, off, none⟩) := by simpa using hp
  have hv' : tmps[q]?.getD undef = v := by simpa using hv
  simp [results, h, hp', hv', asAddr, run_load_at w g off ty cs d hu hd hi hc]
end
theorem built115k (k i : Int) : Tryz.prog.built 115 [(0, .int .u8 k), (1, .int .u8 i)] = some (u8s (k :: i :: zeros 62)).toArray := by kernel_rfl
theorem build115k (k i : Int) (w : World) : (Instr.build 115 #[(0, .int .u8 k), (1, .int .u8 i)]).run Tryz.prog w = .ok (.agg (u8s (k :: i :: zeros 62)).toArray) w := run_build w 115 _ _ (built115k k i)
theorem u8s_one (l : List Int) : ∀ v ∈ (u8s l).toArray, v.oneCell' = true := fun v hv => by
  obtain ⟨z, _, rfl⟩ := List.mem_map.1 (by simpa using hv)
  rfl
theorem u8s_size (l : List Int) : (u8s l).toArray.size = l.length := by simp
set_option maxRecDepth 100000 in
theorem encode_no (b : Bk) (sv : Value) (n : Int) (w : World) (hs : BytesAt w sv b.bytes) (hw : b.Wf) (hg : b.good = false) : Calls Tryz.prog 90 #[.agg (b.arr sv), .int .u32 n] w fun e w' => e = .returned (.tuple #[.agg (u8s (zeros 64)).toArray, .int .i64 11]) ∧ Below w.heap.size w w' := by
  have HSZ := Lib.hid (b.arr_size hw sv)
  have HW := Lib.hid hw
  have HG := Lib.hid fun w => good_any b sv hs.len hw w
  rw [hg] at HG
  go_enter Tryz.func90, Tryz.ntmps90
  repeat (first | (with_reducible refine stopR (id := 0) ?_) | go_values | go_skip | go_guarded | go_step | go_upon | go_back)
  refine Stop.mk (wp_region_lit ?_)
  refine box_g rfl rfl ?_
  intro wA hA hB hl
  try simp only [Act.put, List.setIfInBounds_toArray, List.set_cons_succ, List.set_cons_zero]
  refine alloc_g zero115 rfl ?_
  intro wB hR hB2 hl2
  try simp only [Act.put, List.setIfInBounds_toArray, List.set_cons_succ, List.set_cons_zero]
  refine takeL (.int .i64 0) rfl (by go_simp) ?_
  try simp only [Act.put, List.setIfInBounds_toArray, List.set_cons_succ, List.set_cons_zero]
  have H0 : Hid (ES w wB w.heap.size wA.heap.size b sv) := Lib.hid ⟨⟨hA.below hB2 hl, HW.out⟩, hR, hB.trans (hB2.mono hB.size), Nat.le_refl _, hl⟩
  clear hA hB hl hR hB2 hl2
  generalize hgg : w.heap.size = g at *
  generalize hrr : wA.heap.size = r at *
  have HGG := Lib.hid hgg
  clear hgg hrr wA
  refine wpList_nil ?_
  repeat (first | (with_reducible refine stopR (id := 1) ?_) | go_values | go_skip | go_guarded | go_step | go_upon | go_back)
  refine Stop.mk (wp_region_lit ?_)
  refine load73 H0.out.bat.all HSZ.out rfl rfl ?_
  try simp only [Act.put, List.setIfInBounds_toArray, List.set_cons_succ, List.set_cons_zero]
  refine wpList_op rfl fun K hK => ?_
  go_simp
  refine (HG.out _).mono ?_
  rintro e w1 ⟨rfl, hb⟩
  refine hK _ _ ?_
  clear hK K
  try simp only [Act.put, List.setIfInBounds_toArray, List.set_cons_succ, List.set_cons_zero]
  have H1 := Lib.hid (H0.out.below hb)
  clear hb H0
  refine takeL (.bool true) rfl (by go_simp) ?_
  try simp only [Act.put, List.setIfInBounds_toArray, List.set_cons_succ, List.set_cons_zero]
  refine wpList_nil ?_
  repeat (first | (with_reducible refine stopR (id := 2) ?_) | go_values | go_skip | go_guarded | go_step | go_upon | go_back)
  refine Stop.mk (wp_region_lit ?_)
  refine build_g (build115 _) rfl ?_
  try simp only [Act.put, List.setIfInBounds_toArray, List.set_cons_succ, List.set_cons_zero]
  refine store_all H1.out.res (by simp) (by simpa [zeros] using info115) (u8s_one _) rfl rfl rfl ?_
  intro wZ hZ hOZ hlZ
  try simp only [Act.put, List.setIfInBounds_toArray, List.set_cons_succ, List.set_cons_zero]
  refine takeL (.int .i64 11) rfl (by go_simp) ?_
  try simp only [Act.put, List.setIfInBounds_toArray, List.set_cons_succ, List.set_cons_zero]
  have HF := Lib.hid (H1.out.bel.trans (hOZ.below H1.out.bel.size (fun k hk => by have := H1.out.g0; have := H1.out.gr; omega)))
  refine wpList_nil ?_
  go_wp2_with fail
  refine bodyPost_ret (v := .tuple #[.agg (u8s (zeros 64)).toArray, .int .i64 11]) (results_cell_tmp rfl _ _ r 0 _ _ _ rfl rfl Tryz.underlying115 rfl (by simpa [zeros] using info115) (hZ.all rfl)) rfl ⟨rfl, HF.out⟩
set_option maxRecDepth 100000 in
theorem encode_img (b : Bk) (sv : Value) (n : Int) (w : World) (hs : BytesAt w sv b.bytes) (hw : b.Wf) (hg : b.good = true) (hk : b.kind = 1) (hn : 0 ≤ n ∧ n < 4294967296) : Calls Tryz.prog 90 #[.agg (b.arr sv), .int .u32 n] w fun e w' => e = .returned (.tuple #[.agg (u8s (b.enc n)).toArray, .int .i64 0]) ∧ Below w.heap.size w w' := by
  have HSZ := Lib.hid (b.arr_size hw sv)
  have HW := Lib.hid hw
  have HG := Lib.hid fun w => good_any b sv hs.len hw w
  rw [hg] at HG
  obtain ⟨hn1, hn2⟩ := hn
  obtain ⟨_, hi1, hi2⟩ := good_kind hg
  have HK := Lib.hid hk
  have HL := Lib.hid (enc_length hg hw n)
  have HEQ : Hid (layI (layI (1 :: b.id :: zeros 62) 2 (le 4 n)) 6 b.page = b.enc n) := Lib.hid (by
    have hp := hw.page
    simp [Bk.enc, hk, layI, le, zeros, hp])
  clear hg hk hw
  go_enter Tryz.func90, Tryz.ntmps90
  repeat (first | (with_reducible refine stopR (id := 0) ?_) | go_values | go_skip | go_guarded | go_step | go_upon | go_back)
  refine Stop.mk (wp_region_lit ?_)
  refine box_g rfl rfl ?_
  intro wA hA hB hl
  try simp only [Act.put, List.setIfInBounds_toArray, List.set_cons_succ, List.set_cons_zero]
  refine alloc_g zero115 rfl ?_
  intro wB hR hB2 hl2
  try simp only [Act.put, List.setIfInBounds_toArray, List.set_cons_succ, List.set_cons_zero]
  refine takeL (.int .i64 0) rfl (by go_simp) ?_
  try simp only [Act.put, List.setIfInBounds_toArray, List.set_cons_succ, List.set_cons_zero]
  have H0 : Hid (ES w wB w.heap.size wA.heap.size b sv) := Lib.hid ⟨⟨hA.below hB2 hl, HW.out⟩, hR, hB.trans (hB2.mono hB.size), Nat.le_refl _, hl⟩
  clear hA hB hl hR hB2 hl2
  generalize hgg : w.heap.size = g at *
  generalize hrr : wA.heap.size = r at *
  have HGG := Lib.hid hgg
  clear hgg hrr wA
  refine wpList_nil ?_
  repeat (first | (with_reducible refine stopR (id := 1) ?_) | go_values | go_skip | go_guarded | go_step | go_upon | go_back)
  refine Stop.mk (wp_region_lit ?_)
  refine load73 H0.out.bat.all HSZ.out rfl rfl ?_
  try simp only [Act.put, List.setIfInBounds_toArray, List.set_cons_succ, List.set_cons_zero]
  refine wpList_op rfl fun K hK => ?_
  go_simp
  refine (HG.out _).mono ?_
  rintro e w1 ⟨rfl, hb⟩
  refine hK _ _ ?_
  clear hK K
  try simp only [Act.put, List.setIfInBounds_toArray, List.set_cons_succ, List.set_cons_zero]
  have H1 := Lib.hid (H0.out.below hb)
  clear hb H0
  refine takeL (.bool false) rfl (by go_simp) ?_
  try simp only [Act.put, List.setIfInBounds_toArray, List.set_cons_succ, List.set_cons_zero]
  refine wpList_nil ?_
  repeat (first | (with_reducible refine stopR (id := 3) ?_) | go_values | go_skip | go_guarded | go_step | go_upon | go_back)
  refine Stop.mk (wp_region_lit ?_)
  have c0 := H1.out.bat.c0
  rw [HK.out] at c0
  have c1 := H1.out.bat.c1
  refine takeL (.pointer (some ⟨g, 0, none⟩)) rfl (by go_simp) ?_
  try simp only [Act.put, List.setIfInBounds_toArray, List.set_cons_succ, List.set_cons_zero]
  refine takeL (.int .i64 1) rfl (by go_simp) ?_
  try simp only [Act.put, List.setIfInBounds_toArray, List.set_cons_succ, List.set_cons_zero]
  refine takeL (.int .u8 1) rfl (by go_simp; rfl) ?_
  try simp only [Act.put, List.setIfInBounds_toArray, List.set_cons_succ, List.set_cons_zero]
  refine takeL (.pointer (some ⟨g, 1, none⟩)) rfl (by go_simp) ?_
  try simp only [Act.put, List.setIfInBounds_toArray, List.set_cons_succ, List.set_cons_zero]
  refine takeL (.int .i64 b.id) rfl (by go_simp) ?_
  try simp only [Act.put, List.setIfInBounds_toArray, List.set_cons_succ, List.set_cons_zero]
  refine takeL (.int .u8 b.id) rfl (by go_simp; exact wrap8 (by omega) (by omega)) ?_
  try simp only [Act.put, List.setIfInBounds_toArray, List.set_cons_succ, List.set_cons_zero]
  refine takeL (.agg (u8s (1 :: b.id :: zeros 62)).toArray) rfl (exec_build _ _ _ _ 115 #[(0, .tmp 15), (1, .tmp 18)] rfl #[(0, .int .u8 1), (1, .int .u8 b.id)] (by simp only [List.map_toArray, List.map_cons, List.map_nil]; rfl) _ (build115k 1 b.id _)) ?_
  try simp only [Act.put, List.setIfInBounds_toArray, List.set_cons_succ, List.set_cons_zero]
  refine alloc_g zero115 rfl ?_
  intro wC hC hBC hlC
  try simp only [Act.put, List.setIfInBounds_toArray, List.set_cons_succ, List.set_cons_zero]
  refine store_all hC (by simp [zeros]) (by simpa [zeros] using info115) (u8s_one _) rfl rfl rfl ?_
  intro wD hD hOD hlD
  try simp only [Act.put, List.setIfInBounds_toArray, List.set_cons_succ, List.set_cons_zero]
  have H2 : Hid (ET w wD g r w1.heap.size b sv (1 :: b.id :: zeros 62)) := Lib.hid (ET.mk (H1.out.below (hBC.trans (hOD.below hBC.size (fun k hk => Nat.le_of_eq hk.symm)))) hD H1.out.res.lt)
  clear c0 c1 hC hBC hlC hD hOD hlD
  generalize hss : w1.heap.size = s at *
  clear hss
  refine wpList_nil ?_
  go_wp2_with fail
  refine (put4_any wD s 2 62 _ H2.out.sec (by simp [zeros]) n ⟨hn1, hn2⟩ ).mono ?_
  rintro e w2 ⟨rfl, hb, ho⟩
  rw [lay_u8s] at hb
  have H3 := Lib.hid (H2.out.put hb ho)
  clear hb ho H2
  have c0 := H3.out.es.bat.c0
  rw [HK.out] at c0
  go_wp2_with fail
  refine startH (fun _ => True) (by kernel_rfl) ?_
  refine takeH 0 (some 27) (.slice (some ⟨s, 6, none⟩) 58 58) rfl rfl (by kernel_rfl) (by kernel_rfl) (by kernel_rfl) (fun _ _ _ h => h) rfl (fun w _ => by go_simp) trivial ?_
  try simp only [Act.put, List.setIfInBounds_toArray, List.set_cons_succ, List.set_cons_zero]
  refine takeH 1 (some 28) (.pointer (some ⟨g, 2, none⟩)) rfl rfl (by kernel_rfl) (by kernel_rfl) (by kernel_rfl) (fun _ _ _ h => h) rfl (fun w _ => by go_simp) trivial ?_
  try simp only [Act.put, List.setIfInBounds_toArray, List.set_cons_succ, List.set_cons_zero]
  refine takeH 2 (some 29) (.slice (some ⟨g, 2, none⟩) 32 32) rfl rfl (by kernel_rfl) (by kernel_rfl) (by kernel_rfl) (fun _ _ _ h => h) rfl (fun w _ => by go_simp) trivial ?_
  try simp only [Act.put, List.setIfInBounds_toArray, List.set_cons_succ, List.set_cons_zero]
  refine oneH 3 (by kernel_rfl) rfl rfl fun K hK => ?_
  refine wp_copy _ _ rfl Tryz.underlying25 info5s s 6 58 58 g 2 32 32 rfl rfl (u8s (layI (1 :: b.id :: zeros 62) 2 (le 4 n))) b.page H3.out.drew.sec (by rw [HW.out.page]; rfl) (fun j v hv => H3.out.drew.es.bat.page_at j v hv) (by rw [HW.out.page]; simp [layI, zeros, le]) (some 30) rfl fun wC hb ho => ?_
  refine hK _ _ trivial ?_
  clear hK K
  try simp only [Act.put, List.setIfInBounds_toArray, List.set_cons_succ, List.set_cons_zero]
  rw [lay_u8s, HEQ.out] at hb
  have H4 := Lib.hid (H3.out.drew.put hb ho)
  clear hb ho c0
  refine wpAnyH_done (by kernel_rfl) ?_ _
  repeat (first | (with_reducible refine stopR (id := 19) ?_) | go_values | go_skip | go_guarded | go_step | go_upon | go_back)
  refine Stop.mk (wp_region_lit ?_)
  refine load115 (Blk.all (cs := (u8s (b.enc n)).toArray) H4.out.sec rfl) (by rw [u8s_size, HL.out]) rfl rfl ?_
  try simp only [Act.put, List.setIfInBounds_toArray, List.set_cons_succ, List.set_cons_zero]
  refine store_all H4.out.es.res (by rw [u8s_size, HL.out]; simp [zeros]) (by rw [u8s_size, HL.out]; exact info115) (u8s_one _) rfl rfl rfl ?_
  intro wZ hZ hOZ hlZ
  try simp only [Act.put, List.setIfInBounds_toArray, List.set_cons_succ, List.set_cons_zero]
  refine takeL (.int .i64 0) rfl (by go_simp) ?_
  try simp only [Act.put, List.setIfInBounds_toArray, List.set_cons_succ, List.set_cons_zero]
  have HF := Lib.hid (H4.out.es.bel.trans (hOZ.below H4.out.es.bel.size (fun k hk => by have := H4.out.es.g0; have := H4.out.es.gr; omega)))
  refine wpList_nil ?_
  go_wp2_with fail
  refine bodyPost_ret (v := .tuple #[.agg (u8s (b.enc n)).toArray, .int .i64 0]) (results_cell_tmp rfl _ _ r 0 _ _ _ rfl rfl Tryz.underlying115 rfl (by rw [u8s_size, HL.out]; exact info115) ?_) rfl ⟨rfl, HF.out⟩
  exact Blk.all (cs := (u8s (b.enc n)).toArray) hZ rfl
set_option maxRecDepth 100000 in
theorem encode_dlt (b : Bk) (sv : Value) (n : Int) (w : World) (hs : BytesAt w sv b.bytes) (hw : b.Wf) (hg : b.good = true) (hk : b.kind = 2) (hn : 0 ≤ n ∧ n < 4294967296) : Calls Tryz.prog 90 #[.agg (b.arr sv), .int .u32 n] w fun e w' => e = .returned (.tuple #[.agg (u8s (b.enc n)).toArray, .int .i64 0]) ∧ Below w.heap.size w w' := by
  have HSZ := Lib.hid (b.arr_size hw sv)
  have HW := Lib.hid hw
  have HG := Lib.hid fun w => good_any b sv hs.len hw w
  rw [hg] at HG
  obtain ⟨hn1, hn2⟩ := hn
  obtain ⟨_, hi1, hi2⟩ := good_kind hg
  have HK := Lib.hid hk
  have HL := Lib.hid (enc_length hg hw n)
  have HEQ : Hid (layI (layI (((layI (2 :: b.id :: zeros 62) 2 (le 4 n)).set 6 b.off).set 7 b.bytes.length) 8 b.bytes) 24 (le 2 b.prev) = b.enc n) := Lib.hid (by
    rw [delta_laid _ _ _ _ _ (good2 hg hk).1.2]
    unfold Bk.enc
    rw [if_neg (by omega), if_pos hk])
  obtain ⟨⟨hb1, hb2⟩, ⟨ho1, ho2⟩, ⟨hp1, hp2⟩, _⟩ := good2 hg hk
  have HBY := Lib.hid hs
  obtain ⟨p, q, cap, hsv, _⟩ := hs.has (by omega)
  have HSV := Lib.hid hsv
  clear hsv
  clear hg hk hw
  go_enter Tryz.func90, Tryz.ntmps90
  repeat (first | (with_reducible refine stopR (id := 0) ?_) | go_values | go_skip | go_guarded | go_step | go_upon | go_back)
  refine Stop.mk (wp_region_lit ?_)
  refine box_g rfl rfl ?_
  intro wA hA hB hl
  try simp only [Act.put, List.setIfInBounds_toArray, List.set_cons_succ, List.set_cons_zero]
  refine alloc_g zero115 rfl ?_
  intro wB hR hB2 hl2
  try simp only [Act.put, List.setIfInBounds_toArray, List.set_cons_succ, List.set_cons_zero]
  refine takeL (.int .i64 0) rfl (by go_simp) ?_
  try simp only [Act.put, List.setIfInBounds_toArray, List.set_cons_succ, List.set_cons_zero]
  have H0 : Hid (ES w wB w.heap.size wA.heap.size b sv) := Lib.hid ⟨⟨hA.below hB2 hl, HW.out⟩, hR, hB.trans (hB2.mono hB.size), Nat.le_refl _, hl⟩
  clear hA hB hl hR hB2 hl2
  generalize hgg : w.heap.size = g at *
  generalize hrr : wA.heap.size = r at *
  have HGG := Lib.hid hgg
  clear hgg hrr wA
  refine wpList_nil ?_
  repeat (first | (with_reducible refine stopR (id := 1) ?_) | go_values | go_skip | go_guarded | go_step | go_upon | go_back)
  refine Stop.mk (wp_region_lit ?_)
  refine load73 H0.out.bat.all HSZ.out rfl rfl ?_
  try simp only [Act.put, List.setIfInBounds_toArray, List.set_cons_succ, List.set_cons_zero]
  refine wpList_op rfl fun K hK => ?_
  go_simp
  refine (HG.out _).mono ?_
  rintro e w1 ⟨rfl, hb⟩
  refine hK _ _ ?_
  clear hK K
  try simp only [Act.put, List.setIfInBounds_toArray, List.set_cons_succ, List.set_cons_zero]
  have H1 := Lib.hid (H0.out.below hb)
  clear hb H0
  refine takeL (.bool false) rfl (by go_simp) ?_
  try simp only [Act.put, List.setIfInBounds_toArray, List.set_cons_succ, List.set_cons_zero]
  refine wpList_nil ?_
  repeat (first | (with_reducible refine stopR (id := 3) ?_) | go_values | go_skip | go_guarded | go_step | go_upon | go_back)
  refine Stop.mk (wp_region_lit ?_)
  have c0 := H1.out.bat.c0
  rw [HK.out] at c0
  have c1 := H1.out.bat.c1
  refine takeL (.pointer (some ⟨g, 0, none⟩)) rfl (by go_simp) ?_
  try simp only [Act.put, List.setIfInBounds_toArray, List.set_cons_succ, List.set_cons_zero]
  refine takeL (.int .i64 2) rfl (by go_simp) ?_
  try simp only [Act.put, List.setIfInBounds_toArray, List.set_cons_succ, List.set_cons_zero]
  refine takeL (.int .u8 2) rfl (by go_simp; rfl) ?_
  try simp only [Act.put, List.setIfInBounds_toArray, List.set_cons_succ, List.set_cons_zero]
  refine takeL (.pointer (some ⟨g, 1, none⟩)) rfl (by go_simp) ?_
  try simp only [Act.put, List.setIfInBounds_toArray, List.set_cons_succ, List.set_cons_zero]
  refine takeL (.int .i64 b.id) rfl (by go_simp) ?_
  try simp only [Act.put, List.setIfInBounds_toArray, List.set_cons_succ, List.set_cons_zero]
  refine takeL (.int .u8 b.id) rfl (by go_simp; exact wrap8 (by omega) (by omega)) ?_
  try simp only [Act.put, List.setIfInBounds_toArray, List.set_cons_succ, List.set_cons_zero]
  refine takeL (.agg (u8s (2 :: b.id :: zeros 62)).toArray) rfl (exec_build _ _ _ _ 115 #[(0, .tmp 15), (1, .tmp 18)] rfl #[(0, .int .u8 2), (1, .int .u8 b.id)] (by simp only [List.map_toArray, List.map_cons, List.map_nil]; rfl) _ (build115k 2 b.id _)) ?_
  try simp only [Act.put, List.setIfInBounds_toArray, List.set_cons_succ, List.set_cons_zero]
  refine alloc_g zero115 rfl ?_
  intro wC hC hBC hlC
  try simp only [Act.put, List.setIfInBounds_toArray, List.set_cons_succ, List.set_cons_zero]
  refine store_all hC (by simp [zeros]) (by simpa [zeros] using info115) (u8s_one _) rfl rfl rfl ?_
  intro wD hD hOD hlD
  try simp only [Act.put, List.setIfInBounds_toArray, List.set_cons_succ, List.set_cons_zero]
  have H2 : Hid (ET w wD g r w1.heap.size b sv (2 :: b.id :: zeros 62)) := Lib.hid (ET.mk (H1.out.below (hBC.trans (hOD.below hBC.size (fun k hk => Nat.le_of_eq hk.symm)))) hD H1.out.res.lt)
  clear c0 c1 hC hBC hlC hD hOD hlD
  generalize hss : w1.heap.size = s at *
  clear hss
  refine wpList_nil ?_
  go_wp2_with fail
  refine (put4_any wD s 2 62 _ H2.out.sec (by simp [zeros]) n ⟨hn1, hn2⟩ ).mono ?_
  rintro e w2 ⟨rfl, hb, ho⟩
  rw [lay_u8s] at hb
  have H3 := Lib.hid (H2.out.put hb ho)
  clear hb ho H2
  have c0 := H3.out.es.bat.c0
  rw [HK.out] at c0
  simp only []
  repeat (first | (with_reducible refine stopR (id := 9) ?_) | go_values | go_skip | go_guarded | go_step | go_upon | go_back)
  refine Stop.mk (wp_region_lit ?_)
  have c34 := H3.out.es.bat.c34
  have hc := H3.out.sec.cell (i := 6) (v := .int .u8 0) (by simp [layI, zeros, le])
  have hf := H3.out.sec.frozen 6
  refine takeL (.pointer (some ⟨g, 34, none⟩)) rfl (by go_simp) ?_
  try simp only [Act.put, List.setIfInBounds_toArray, List.set_cons_succ, List.set_cons_zero]
  refine takeL (.int .i64 b.off) rfl (by go_simp) ?_
  try simp only [Act.put, List.setIfInBounds_toArray, List.set_cons_succ, List.set_cons_zero]
  refine takeL (.int .u8 b.off) rfl (by go_simp; exact wrap8 (by omega) (by omega)) ?_
  try simp only [Act.put, List.setIfInBounds_toArray, List.set_cons_succ, List.set_cons_zero]
  refine takeL (.pointer (some ⟨s, 6, none⟩)) rfl (by go_simp) ?_
  try simp only [Act.put, List.setIfInBounds_toArray, List.set_cons_succ, List.set_cons_zero]
  refine skipL (w2.setCell ⟨s, 6, none⟩ (.int .u8 b.off)) rfl (by go_simp) ?_
  try simp only [Act.put, List.setIfInBounds_toArray, List.set_cons_succ, List.set_cons_zero]
  have H4 := Lib.hid (H3.out.set 6 b.off)
  clear c34 hc hf c0 H3
  generalize w2.setCell ⟨s, 6, none⟩ (.int .u8 b.off) = w3 at *
  refine wpList_nil ?_
  repeat (first | (with_reducible refine stopR (id := 10) ?_) | go_values | go_skip | go_guarded | go_step | go_upon | go_back)
  refine Stop.mk (wp_region_lit ?_)
  have c35 := H4.out.es.bat.c35
  rw [HSV.out] at c35
  have hc := H4.out.sec.cell (i := 7) (v := .int .u8 0) (by simp [layI, zeros, le])
  have hf := H4.out.sec.frozen 7
  refine takeL (.pointer (some ⟨g, 35, none⟩)) rfl (by go_simp) ?_
  try simp only [Act.put, List.setIfInBounds_toArray, List.set_cons_succ, List.set_cons_zero]
  refine takeL (.slice (some ⟨p, q, none⟩) b.bytes.length cap) rfl (by go_simp) ?_
  try simp only [Act.put, List.setIfInBounds_toArray, List.set_cons_succ, List.set_cons_zero]
  refine takeL (.int .i64 b.bytes.length) rfl (by go_simp) ?_
  try simp only [Act.put, List.setIfInBounds_toArray, List.set_cons_succ, List.set_cons_zero]
  refine takeL (.int .u8 b.bytes.length) rfl (by go_simp; exact wrap8 (by omega) (by omega)) ?_
  try simp only [Act.put, List.setIfInBounds_toArray, List.set_cons_succ, List.set_cons_zero]
  refine takeL (.pointer (some ⟨s, 7, none⟩)) rfl (by go_simp) ?_
  try simp only [Act.put, List.setIfInBounds_toArray, List.set_cons_succ, List.set_cons_zero]
  refine skipL (w3.setCell ⟨s, 7, none⟩ (.int .u8 b.bytes.length)) rfl (by go_simp) ?_
  try simp only [Act.put, List.setIfInBounds_toArray, List.set_cons_succ, List.set_cons_zero]
  have H5 := Lib.hid (H4.out.set 7 b.bytes.length)
  clear c35 hc hf H4
  generalize w3.setCell ⟨s, 7, none⟩ (.int .u8 b.bytes.length) = w4 at *
  refine wpList_nil ?_
  go_wp2_with fail
  have c35 := H5.out.drew.es.bat.c35
  rw [HSV.out] at c35
  refine startH (fun wq => wq.cell? ⟨g, 35, none⟩ = some (.slice (some ⟨p, q, none⟩) b.bytes.length cap)) (by kernel_rfl) ?_
  refine takeH 0 (some 42) (.slice (some ⟨s, 8, none⟩) 16 56) rfl rfl (by kernel_rfl) (by kernel_rfl) (by kernel_rfl) (fun _ _ _ h => h) rfl (fun w _ => by go_simp) c35 ?_
  try simp only [Act.put, List.setIfInBounds_toArray, List.set_cons_succ, List.set_cons_zero]
  refine takeH 1 (some 43) (.pointer (some ⟨g, 35, none⟩)) rfl rfl (by kernel_rfl) (by kernel_rfl) (by kernel_rfl) (fun _ _ _ h => h) rfl (fun w _ => by go_simp) c35 ?_
  try simp only [Act.put, List.setIfInBounds_toArray, List.set_cons_succ, List.set_cons_zero]
  refine takeH 2 (some 44) (.slice (some ⟨p, q, none⟩) b.bytes.length cap) rfl rfl (by kernel_rfl) (by kernel_rfl) (by kernel_rfl) (fun _ _ _ h => h) rfl (fun w hS => by go_simp) c35 ?_
  try simp only [Act.put, List.setIfInBounds_toArray, List.set_cons_succ, List.set_cons_zero]
  refine oneH 3 (by kernel_rfl) rfl rfl fun K hK => ?_
  have HBB := HBY.out.below (H5.out.drew.es.bel)
  obtain ⟨p', q', cap', hsv', hsrc⟩ := HBB.has (by omega)
  rw [HSV.out] at hsv'
  cases hsv'
  refine wp_copy _ _ rfl Tryz.underlying25 info5s s 8 16 56 p q b.bytes.length cap rfl rfl (u8s (((layI (2 :: b.id :: zeros 62) 2 (le 4 n)).set 6 b.off).set 7 b.bytes.length)) b.bytes H5.out.drew.sec (Nat.min_eq_left hb2).symm hsrc (by simp [layI, zeros, le]; omega) (some 45) rfl fun wC hb ho => ?_
  rw [lay_u8s] at hb
  have H6 := Lib.hid (H5.out.drew.put hb ho)
  have c35' := H6.out.es.bat.c35
  rw [HSV.out] at c35'
  refine hK _ _ c35' ?_
  clear hK K c35 c35' hb ho hsrc HBB H5
  try simp only [Act.put, List.setIfInBounds_toArray, List.set_cons_succ, List.set_cons_zero]
  refine wpAnyH_done (by kernel_rfl) ?_ _
  go_wp2_with fail
  have c36 := H6.out.drew.es.bat.c36
  refine startH (fun wq => wq.cell? ⟨g, 36, none⟩ = some (.int .i64 b.prev)) (by kernel_rfl) ?_
  refine takeH 0 (some 46) (.slice (some ⟨s, 24, none⟩) 2 40) rfl rfl (by kernel_rfl) (by kernel_rfl) (by kernel_rfl) (fun _ _ _ h => h) rfl (fun w _ => by go_simp) c36 ?_
  try simp only [Act.put, List.setIfInBounds_toArray, List.set_cons_succ, List.set_cons_zero]
  refine takeH 1 (some 47) (.pointer (some ⟨g, 36, none⟩)) rfl rfl (by kernel_rfl) (by kernel_rfl) (by kernel_rfl) (fun _ _ _ h => h) rfl (fun w _ => by go_simp) c36 ?_
  try simp only [Act.put, List.setIfInBounds_toArray, List.set_cons_succ, List.set_cons_zero]
  refine takeH 2 (some 48) (.int .i64 b.prev) rfl rfl (by kernel_rfl) (by kernel_rfl) (by kernel_rfl) (fun _ _ _ h => h) rfl (fun w hS => by go_simp) c36 ?_
  try simp only [Act.put, List.setIfInBounds_toArray, List.set_cons_succ, List.set_cons_zero]
  refine takeH 3 (some 49) (.int .u32 b.prev) rfl rfl (by kernel_rfl) (by kernel_rfl) (by kernel_rfl) (fun _ _ _ h => h) rfl (fun w hS => by go_simp; exact wrap32 (by omega) (by omega)) c36 ?_
  try simp only [Act.put, List.setIfInBounds_toArray, List.set_cons_succ, List.set_cons_zero]
  refine oneH 4 (by kernel_rfl) rfl rfl fun K hK => ?_
  go_simp
  refine (put2_any _ s 24 40 _ H6.out.drew.sec (by simp [layI, zeros, le]; omega) b.prev ⟨by omega, by omega⟩).mono ?_
  rintro e w6 ⟨rfl, hb, ho⟩
  rw [lay_u8s, HEQ.out] at hb
  have H7 := Lib.hid (H6.out.drew.put hb ho)
  refine hK _ _ H7.out.es.bat.c36 ?_
  clear hK K c36 hb ho H6
  try simp only [Act.put, List.setIfInBounds_toArray, List.set_cons_succ, List.set_cons_zero]
  refine wpAnyH_done (by kernel_rfl) ?_ _
  repeat (first | (with_reducible refine stopR (id := 19) ?_) | go_values | go_skip | go_guarded | go_step | go_upon | go_back)
  refine Stop.mk (wp_region_lit ?_)
  refine load115 (Blk.all (cs := (u8s (b.enc n)).toArray) H7.out.sec rfl) (by rw [u8s_size, HL.out]) rfl rfl ?_
  try simp only [Act.put, List.setIfInBounds_toArray, List.set_cons_succ, List.set_cons_zero]
  refine store_all H7.out.es.res (by rw [u8s_size, HL.out]; simp [zeros]) (by rw [u8s_size, HL.out]; exact info115) (u8s_one _) rfl rfl rfl ?_
  intro wZ hZ hOZ hlZ
  try simp only [Act.put, List.setIfInBounds_toArray, List.set_cons_succ, List.set_cons_zero]
  refine takeL (.int .i64 0) rfl (by go_simp) ?_
  try simp only [Act.put, List.setIfInBounds_toArray, List.set_cons_succ, List.set_cons_zero]
  have HF := Lib.hid (H7.out.es.bel.trans (hOZ.below H7.out.es.bel.size (fun k hk => by have := H7.out.es.g0; have := H7.out.es.gr; omega)))
  refine wpList_nil ?_
  go_wp2_with fail
  refine bodyPost_ret (v := .tuple #[.agg (u8s (b.enc n)).toArray, .int .i64 0]) (results_cell_tmp rfl _ _ r 0 _ _ _ rfl rfl Tryz.underlying115 rfl (by rw [u8s_size, HL.out]; exact info115) ?_) rfl ⟨rfl, HF.out⟩
  exact Blk.all (cs := (u8s (b.enc n)).toArray) hZ rfl
set_option maxRecDepth 100000 in
theorem encode_map (b : Bk) (sv : Value) (n : Int) (w : World) (hs : BytesAt w sv b.bytes) (hw : b.Wf) (hg : b.good = true) (hk : b.kind = 3) (hn : 0 ≤ n ∧ n < 4294967296) : Calls Tryz.prog 90 #[.agg (b.arr sv), .int .u32 n] w fun e w' => e = .returned (.tuple #[.agg (u8s (b.enc n)).toArray, .int .i64 0]) ∧ Below w.heap.size w w' := by
  have HSZ := Lib.hid (b.arr_size hw sv)
  have HW := Lib.hid hw
  have HG := Lib.hid fun w => good_any b sv hs.len hw w
  rw [hg] at HG
  obtain ⟨hn1, hn2⟩ := hn
  obtain ⟨_, hi1, hi2⟩ := good_kind hg
  have HK := Lib.hid hk
  have HL := Lib.hid (enc_length hg hw n)
  have HEQ : Hid (layI (layI (3 :: b.id :: zeros 62) 2 (le 4 n)) 6 (b.heads.flatMap (le 2)) = b.enc n) := Lib.hid (by
    have hh := flat_length b.heads
    rw [hw.heads] at hh
    unfold Bk.enc
    rw [if_neg (by omega), if_neg (by omega)]
    generalize b.heads.flatMap (le 2) = F at hh ⊢
    simp [layI, le, zeros, hh])
  obtain ⟨hhs, _⟩ := good3 hg hk
  have HHS := Lib.hid hhs
  have hh8 : (i64s b.heads).toArray.size = 8 := by simpa using hw.heads
  have HIX := Lib.hid fun (j : Nat) (x : Int) (hx : b.heads[j]? = some x) (w : World) => index71 w b.heads hw.heads j x hx
  clear hhs
  clear hg hk hw
  go_enter Tryz.func90, Tryz.ntmps90
  repeat (first | (with_reducible refine stopR (id := 0) ?_) | go_values | go_skip | go_guarded | go_step | go_upon | go_back)
  refine Stop.mk (wp_region_lit ?_)
  refine box_g rfl rfl ?_
  intro wA hA hB hl
  try simp only [Act.put, List.setIfInBounds_toArray, List.set_cons_succ, List.set_cons_zero]
  refine alloc_g zero115 rfl ?_
  intro wB hR hB2 hl2
  try simp only [Act.put, List.setIfInBounds_toArray, List.set_cons_succ, List.set_cons_zero]
  refine takeL (.int .i64 0) rfl (by go_simp) ?_
  try simp only [Act.put, List.setIfInBounds_toArray, List.set_cons_succ, List.set_cons_zero]
  have H0 : Hid (ES w wB w.heap.size wA.heap.size b sv) := Lib.hid ⟨⟨hA.below hB2 hl, HW.out⟩, hR, hB.trans (hB2.mono hB.size), Nat.le_refl _, hl⟩
  clear hA hB hl hR hB2 hl2
  generalize hgg : w.heap.size = g at *
  generalize hrr : wA.heap.size = r at *
  have HGG := Lib.hid hgg
  clear hgg hrr wA
  refine wpList_nil ?_
  repeat (first | (with_reducible refine stopR (id := 1) ?_) | go_values | go_skip | go_guarded | go_step | go_upon | go_back)
  refine Stop.mk (wp_region_lit ?_)
  refine load73 H0.out.bat.all HSZ.out rfl rfl ?_
  try simp only [Act.put, List.setIfInBounds_toArray, List.set_cons_succ, List.set_cons_zero]
  refine wpList_op rfl fun K hK => ?_
  go_simp
  refine (HG.out _).mono ?_
  rintro e w1 ⟨rfl, hb⟩
  refine hK _ _ ?_
  clear hK K
  try simp only [Act.put, List.setIfInBounds_toArray, List.set_cons_succ, List.set_cons_zero]
  have H1 := Lib.hid (H0.out.below hb)
  clear hb H0
  refine takeL (.bool false) rfl (by go_simp) ?_
  try simp only [Act.put, List.setIfInBounds_toArray, List.set_cons_succ, List.set_cons_zero]
  refine wpList_nil ?_
  repeat (first | (with_reducible refine stopR (id := 3) ?_) | go_values | go_skip | go_guarded | go_step | go_upon | go_back)
  refine Stop.mk (wp_region_lit ?_)
  have c0 := H1.out.bat.c0
  rw [HK.out] at c0
  have c1 := H1.out.bat.c1
  refine takeL (.pointer (some ⟨g, 0, none⟩)) rfl (by go_simp) ?_
  try simp only [Act.put, List.setIfInBounds_toArray, List.set_cons_succ, List.set_cons_zero]
  refine takeL (.int .i64 3) rfl (by go_simp) ?_
  try simp only [Act.put, List.setIfInBounds_toArray, List.set_cons_succ, List.set_cons_zero]
  refine takeL (.int .u8 3) rfl (by go_simp; rfl) ?_
  try simp only [Act.put, List.setIfInBounds_toArray, List.set_cons_succ, List.set_cons_zero]
  refine takeL (.pointer (some ⟨g, 1, none⟩)) rfl (by go_simp) ?_
  try simp only [Act.put, List.setIfInBounds_toArray, List.set_cons_succ, List.set_cons_zero]
  refine takeL (.int .i64 b.id) rfl (by go_simp) ?_
  try simp only [Act.put, List.setIfInBounds_toArray, List.set_cons_succ, List.set_cons_zero]
  refine takeL (.int .u8 b.id) rfl (by go_simp; exact wrap8 (by omega) (by omega)) ?_
  try simp only [Act.put, List.setIfInBounds_toArray, List.set_cons_succ, List.set_cons_zero]
  refine takeL (.agg (u8s (3 :: b.id :: zeros 62)).toArray) rfl (exec_build _ _ _ _ 115 #[(0, .tmp 15), (1, .tmp 18)] rfl #[(0, .int .u8 3), (1, .int .u8 b.id)] (by simp only [List.map_toArray, List.map_cons, List.map_nil]; rfl) _ (build115k 3 b.id _)) ?_
  try simp only [Act.put, List.setIfInBounds_toArray, List.set_cons_succ, List.set_cons_zero]
  refine alloc_g zero115 rfl ?_
  intro wC hC hBC hlC
  try simp only [Act.put, List.setIfInBounds_toArray, List.set_cons_succ, List.set_cons_zero]
  refine store_all hC (by simp [zeros]) (by simpa [zeros] using info115) (u8s_one _) rfl rfl rfl ?_
  intro wD hD hOD hlD
  try simp only [Act.put, List.setIfInBounds_toArray, List.set_cons_succ, List.set_cons_zero]
  have H2 : Hid (ET w wD g r w1.heap.size b sv (3 :: b.id :: zeros 62)) := Lib.hid (ET.mk (H1.out.below (hBC.trans (hOD.below hBC.size (fun k hk => Nat.le_of_eq hk.symm)))) hD H1.out.res.lt)
  clear c0 c1 hC hBC hlC hD hOD hlD
  generalize hss : w1.heap.size = s at *
  clear hss
  refine wpList_nil ?_
  go_wp2_with fail
  refine (put4_any wD s 2 62 _ H2.out.sec (by simp [zeros]) n ⟨hn1, hn2⟩ ).mono ?_
  rintro e w2 ⟨rfl, hb, ho⟩
  rw [lay_u8s] at hb
  have H3 := Lib.hid (H2.out.put hb ho)
  clear hb ho H2
  have c0 := H3.out.es.bat.c0
  rw [HK.out] at c0
  simp only []
  repeat (first | (with_reducible refine stopR (id := 14) ?_) | go_values | go_skip | go_guarded | go_step | go_upon | go_back)
  refine Stop.mk (wp_region_lit ?_)
  refine takeL (.pointer (some ⟨g, 37, none⟩)) rfl (by go_simp) ?_
  try simp only [Act.put, List.setIfInBounds_toArray, List.set_cons_succ, List.set_cons_zero]
  refine load71 (cs := (i64s b.heads).toArray) H3.out.es.bat.heads hh8 rfl rfl ?_
  try simp only [Act.put, List.setIfInBounds_toArray, List.set_cons_succ, List.set_cons_zero]
  refine takeL (.int .i64 0) rfl (by go_simp) ?_
  try simp only [Act.put, List.setIfInBounds_toArray, List.set_cons_succ, List.set_cons_zero]
  refine wpList_nil ?_
  clear c0
  go_wp2_with fail
  go_loopg [55] 8 (fun q i wr => ∃ k : Nat, 8 - k ≤ q ∧ k ≤ 8 ∧ i = .int .i64 k ∧ ET w wr g r s b sv (layI (layI (3 :: b.id :: zeros 62) 2 (le 4 n)) 6 ((b.heads.take k).flatMap (le 2))))
  case atStart => exact ⟨0, by omega, by omega, rfl, by rw [List.take_zero, List.flatMap_nil, layI_nil]; exact H3.out⟩
  case round =>
    obtain ⟨k, hg, hk, rfl, het⟩ := hrel
    have HE := Lib.hid het
    clear het
    by_cases hlt : k < 8
    · obtain ⟨x, hx⟩ : ∃ x, b.heads[k]? = some x := ⟨_, List.getElem?_eq_getElem (by rw [HW.out.heads]; exact hlt)⟩
      have h3 := HIX.out k x hx
      obtain ⟨hx1, hx2⟩ := HHS.out x (List.mem_of_getElem? hx)
      have HX := Lib.hid hx
      clear hx
      have HLK : Hid ((layI (layI (3 :: b.id :: zeros 62) 2 (le 4 n)) 6 ((b.heads.take k).flatMap (le 2))).length = 64 ∧ ((b.heads.take k).flatMap (le 2)).length = 2 * k) := Lib.hid (by
        have hf := flat_length (b.heads.take k)
        rw [List.length_take, HW.out.heads, Nat.min_eq_left hk] at hf
        refine ⟨?_, hf⟩
        rw [layI_length (by rw [hf]; simp [layI, zeros, le]; omega)]
        simp [layI, zeros, le])
      have HNX : Hid (layI (layI (layI (3 :: b.id :: zeros 62) 2 (le 4 n)) 6 ((b.heads.take k).flatMap (le 2))) (6 + 2 * k) (le 2 x) = layI (layI (3 :: b.id :: zeros 62) 2 (le 4 n)) 6 ((b.heads.take (k + 1)).flatMap (le 2))) := Lib.hid (by
        have := layI_snoc (L := layI (3 :: b.id :: zeros 62) 2 (le 4 n)) (o := 6) (bs := (b.heads.take k).flatMap (le 2)) (cs := le 2 x) (by rw [HLK.out.2, le_length]; simp [layI, zeros, le]; omega)
        rw [HLK.out.2] at this
        rw [this, List.take_add_one, HX.out]
        simp)
      go_wp2_with fail
      refine (headOf_any wr s k hlt).mono ?_
      rintro e w6 ⟨rfl, rfl⟩
      go_wp2_with fail
      refine (put2_any wr s (6 + 2 * k) (64 - (6 + 2 * k)) _ HE.out.sec (by have := HLK.out.1; simp only [List.length_map]; omega) x ⟨by omega, by omega⟩).mono ?_
      rintro e w7 ⟨rfl, hb, ho⟩
      rw [lay_u8s, HNX.out] at hb
      have HE2 := Lib.hid (HE.out.put hb ho)
      clear hb ho
      go_wp2_with fail
      go_roundg (8 - (k + 1))
      case measure => omega
      case rel => exact ⟨k + 1, by omega, by omega, by go_num, HE2.out⟩
    · have H9 : Hid (ET w wr g r s b sv (b.enc n)) := Lib.hid (by
        obtain rfl : k = 8 := by omega
        have := HE.out
        rwa [List.take_of_length_le (by rw [HW.out.heads]; omega), HEQ.out] at this)
      have hk8 : k = 8 := by omega
      clear HE
      subst hk8
      repeat (first | (with_reducible refine stopR (id := 19) ?_) | go_values | go_skip | go_guarded | go_step | go_upon | go_back)
      refine Stop.mk (wp_region_lit ?_)
      refine load115 (Blk.all (cs := (u8s (b.enc n)).toArray) H9.out.sec rfl) (by rw [u8s_size, HL.out]) rfl rfl ?_
      try simp only [Act.put, List.setIfInBounds_toArray, List.set_cons_succ, List.set_cons_zero]
      refine store_all H9.out.es.res (by rw [u8s_size, HL.out]; simp [zeros]) (by rw [u8s_size, HL.out]; exact info115) (u8s_one _) rfl rfl rfl ?_
      intro wZ hZ hOZ hlZ
      try simp only [Act.put, List.setIfInBounds_toArray, List.set_cons_succ, List.set_cons_zero]
      refine takeL (.int .i64 0) rfl (by go_simp) ?_
      try simp only [Act.put, List.setIfInBounds_toArray, List.set_cons_succ, List.set_cons_zero]
      have HF := Lib.hid (H9.out.es.bel.trans (hOZ.below H9.out.es.bel.size (fun k hk => by have := H9.out.es.g0; have := H9.out.es.gr; omega)))
      refine wpList_nil ?_
      go_wp2_with fail
      refine bodyPost_ret (v := .tuple #[.agg (u8s (b.enc n)).toArray, .int .i64 0]) (results_cell_tmp rfl _ _ r 0 _ _ _ rfl rfl Tryz.underlying115 rfl (by rw [u8s_size, HL.out]; exact info115) ?_) rfl ⟨rfl, HF.out⟩
      exact Blk.all (cs := (u8s (b.enc n)).toArray) hZ rfl
theorem encode_any (b : Bk) (sv : Value) (n : Int) (w : World) (hs : BytesAt w sv b.bytes) (hw : b.Wf) (hn : 0 ≤ n ∧ n < 4294967296) : Calls Tryz.prog 90 #[.agg (b.arr sv), .int .u32 n] w fun e w' => e = .returned (.tuple #[.agg (u8s (b.sec n)).toArray, .int .i64 b.err]) ∧ Below w.heap.size w w' := by
  unfold Bk.sec Bk.err
  cases hg : b.good
  · simp only [Bool.false_eq_true, if_false]
    exact encode_no b sv n w hs hw hg
  · simp only [if_true]
    rcases (good_kind hg).1 with k | k | k
    · exact encode_img b sv n w hs hw hg k hn
    · exact encode_dlt b sv n w hs hw hg k hn
    · exact encode_map b sv n w hs hw hg k hn
/-- A slice whose values were made behind the block B. -/
def Fresh (B : Nat) (sv : Value) : Prop := ∀ b o n c, sv = .slice (some ⟨b, o, none⟩) n c → B ≤ b
theorem Fresh.nil (B : Nat) : Fresh B (.slice none 0 0) := fun _ _ _ _ h => by cases h
theorem layI_zeros (n : Nat) (l : List Int) : layI (zeros n) 0 l = l ++ zeros (n - l.length) := by simp [layI, zeros]
theorem wp_runTo {P : Program} {o : Oper} {a : Act} {w : World} {K : Act → World → Prop} {Q : Exit → Act → World → Prop} (dst : Option Tmp) (hd : o.dst = dst) (v : Value) (w' : World) (hr : (execOp a.eval o).run P w = .ok (.value v) w') (h : K (a.put dst v) w') : o.wp P a w K Q := by
  subst hd
  exact wp_run v w' hr h
theorem twoH {P : Program} {ops : Array Oper} {md : Region.Mode} {Q : Exit → Act → World → Prop} {S : World → Prop} {fuel : Nat} {listed : Array Bool} {a : Act} {w : World} (i j : Nat) {o p : Oper} (hr : Region.ready md ops listed = [i, j]) (hi : ops[i]? = some o) (hj : ops[j]? = some p)
    (hw : Region.wanted o (yielded ops a.tmps) = true) (hx : Region.wanted p (yielded ops a.tmps) = true)
    (h : ∀ K : Act → World → Prop, (∀ a w, S w → wpAnyH P md ops Q S fuel (listed.setIfInBounds i true) a w → K a w) → Oper.wp P o a w K Q)
    (k : ∀ K : Act → World → Prop, (∀ a w, S w → wpAnyH P md ops Q S fuel (listed.setIfInBounds j true) a w → K a w) → Oper.wp P p a w K Q) : wpAnyH P md ops Q S (fuel + 1) listed a w :=
  wpAnyH_all hr (by simp) fun m hm => by
    rcases (show m = i ∨ m = j by simpa using hm) with rfl | rfl
    · exact wpOp_step hi fun K hK => by rw [if_pos hw]; exact h K fun a w hS hA => hK a w ⟨hS, hA⟩
    · exact wpOp_step hj fun K hK => by rw [if_pos hx]; exact k K fun a w hS hA => hK a w ⟨hS, hA⟩
theorem none_wf : Bk.none.Wf := ⟨small0, small0, small0, small0, rfl, fun x hx => by rw [List.eq_of_mem_replicate hx]; exact ⟨by decide, by decide⟩, by decide, fun x hx => by simp [Bk.none] at hx, rfl, fun x hx => by rw [List.eq_of_mem_replicate hx]; exact small0⟩
/-- Bytes that lie elsewhere than where something is written. -/
theorem BytesAt.only {w w' : World} {sv : Value} {l : List Int} {t : Nat} (h : BytesAt w sv l) (ho : Only (fun k => k = t) w w') (ht : ∀ b o n c, sv = .slice (some ⟨b, o, none⟩) n c → b ≠ t) : BytesAt w' sv l := by
  obtain ⟨a, cap, e, hc⟩ := h
  refine ⟨a, cap, e, fun i x hx => ?_⟩
  obtain ⟨b, o, e2, hx2⟩ := hc i x hx
  refine ⟨b, o, e2, ?_⟩
  have hne : b ≠ t := ht b o _ _ (by rw [e, e2])
  have hb := ho.block b (block_lt_of_cell hx2) hne
  rw [← hx2]
  simp only [World.cell?, hb]
theorem BytesAt.lt {w : World} {sv : Value} {l : List Int} (h : BytesAt w sv l) (hl : 0 < l.length) {b o n c : Nat} (e : sv = .slice (some ⟨b, o, none⟩) n c) : b < w.heap.size := by
  obtain ⟨b', o', c', e', hc⟩ := h.has hl
  rw [e] at e'
  cases e'
  exact block_lt_of_cell (hc 0 l[0] (by simp [hl]))
/-- A slice of one's own: its row was made from B on. -/
def Own (w : World) (B : Nat) (sv : Value) (l : List Int) : Prop := w.ownsRow B 5 1 sv l.length (u8s l)
theorem Own.nil (w : World) (B : Nat) : Own w B (.slice none 0 0) [] := World.ownsRow_nil w B 5 1
theorem Own.bytes {w : World} {B : Nat} {sv : Value} {l : List Int} (h : Own w B sv l) : BytesAt w sv l := by
  rcases h.2 with ⟨rfl, h0⟩ | ⟨g, cap, cur, rfl, hb, hg, hn, hm, hs, ht⟩
  · have : l = [] := List.eq_nil_of_length_eq_zero h0
    subst this
    exact BytesAt.nil _ _ _
  · refine ⟨_, cap, rfl, fun i x hx => ⟨g, 0, rfl, ?_⟩⟩
    rw [Nat.zero_add, World.ownsRow.cellAt h i (by have := (List.getElem?_eq_some_iff.1 hx).1; omega), List.getElem?_map, hx]
    rfl
theorem Own.lt {w : World} {B : Nat} {sv : Value} {l : List Int} (h : Own w B sv l) : ∀ k, sv.ownBlock = some k → B ≤ k ∧ k < w.heap.size := World.ownsRow.lt h
theorem Own.below {w w' : World} {B : Nat} {sv : Value} {l : List Int} (h : Own w B sv l) (hb : Below w.heap.size w w') : Own w' B sv l := by
  refine ⟨h.1, ?_⟩
  rcases h.2 with hn | ⟨g, cap, cur, e, hB, hg, r⟩
  · exact .inl hn
  · exact .inr ⟨g, cap, cur, e, hB, (hb.block g (Array.getElem?_eq_some_iff.1 hg).1).trans hg, r⟩
theorem Own.mono {w : World} {B C : Nat} {sv : Value} {l : List Int} (h : Own w B sv l) (hc : C ≤ B) : Own w C sv l := World.ownsRow.mono h hc
theorem grown_below {w w' : World} {row : Option Nat} {B : Nat} (h : w.grownBy w' row) (hB : B ≤ w.heap.size) (hr : ∀ k, row = some k → B ≤ k) : Below B w w' :=
  ⟨h.os, h.tape, h.output, h.size, fun k hk => h.block k (by omega) fun e => by have := hr k e.symm; omega⟩
theorem inf5 : ∃ i, Tryz.prog.info? 5 = some i ∧ i.zero = some (.int .u8 0) ∧ i.size = 1 ∧ i.bytes = 1 := by
  have := info5
  cases hq : Tryz.prog.info? 5 with
  | none => simp [hq] at this
  | some i => simp [hq] at this; exact ⟨i, rfl, this⟩
/-- Bytes appended. -/
theorem app_own {w : World} {B : Nat} {sv tv : Value} {l m : List Int} (h : Own w B sv l) (hB : B ≤ w.heap.size) (k : BytesAt w tv m) (hlen : l.length + m.length ≤ 1000000) (ty : TypeId) :
    ∃ sv' w', (Builtin.append_ #[25, 25] ty #[sv, tv]).run Tryz.prog w = .ok sv' w' ∧ Own w' B sv' (l ++ m) ∧ w.grownBy w' sv.ownBlock := by
  obtain ⟨i, hi, hz, hs, hby⟩ := inf5
  cases m with
  | nil =>
    have hsl : ∃ a c, sv = .slice a l.length c ∧ l.length ≤ c := by
      rcases h.2 with ⟨e, h0⟩ | ⟨g, cap, cur, e, _, _, hn, _⟩
      · exact ⟨none, 0, by rw [e, h0], by omega⟩
      · exact ⟨_, cap, e, hn⟩
    obtain ⟨a, c, rfl, hle⟩ := hsl
    obtain ⟨ta, tc, rfl, _⟩ := k
    refine ⟨_, w, run_append_nothing w 25 25 ty 5 i Tryz.underlying25 hi a l.length c hle _ ⟨.inl ⟨5, Tryz.underlying25⟩, fun _ => by rfl, ?_, ?_, by simp, fun u hu => by cases hu⟩, by rw [List.append_nil]; exact h, ⟨rfl, rfl, rfl, Nat.le_refl _, fun _ _ _ => rfl⟩⟩
    · cases ta <;> simp [Builtin.firstCells, hs, loadCells, loadCellsFrom]
    · cases ta <;> simp [Builtin.firstCells, hs, loadCells, loadCellsFrom]
  | cons x m =>
    obtain ⟨b, o, c, rfl, hc⟩ := k.has (by simp)
    obtain ⟨v', w', hr, h2, h3, _⟩ := run_append_own (P := Tryz.prog) w B 25 ty 5 i (.int .u8 0) 1 1 Tryz.underlying25 hi hz hs hby rfl (by decide) sv l.length (u8s l) h ⟨b, o, none⟩ (x :: m).length c (u8s (x :: m)) (by simp) (fun j u hu => by
      rw [List.getElem?_map] at hu
      cases hz : (x :: m)[j]? with
      | none => simp [hz] at hu
      | some z =>
        simp [hz] at hu
        subst hu
        rw [show (⟨b, o, none⟩ : Addr).add j = ⟨b, o + j, none⟩ by unfold Addr.add; split <;> simp_all]
        exact hc j z hz) (fun u hu => by obtain ⟨z, _, rfl⟩ := List.mem_map.1 hu; rfl) (by simp only [maxLen]; omega) (by omega) hB
    refine ⟨v', w', hr, ?_, h3⟩
    unfold Own
    rw [List.length_append, show u8s (l ++ x :: m) = u8s l ++ u8s (x :: m) by simp]
    exact h2
section
variable {P : Program}
theorem exec_app {w w' : World} (ev : Operand → Value) (op : Oper) (x y : Operand) (t1 t2 : TypeId) (ho : op.op = .call { callee := .builtin .append, args := #[x, y], argTypes := #[t1, t2] }) (vx vy v' : Value) (hx : ev x = vx) (hy : ev y = vy)
    (hr : (Builtin.append_ #[t1, t2] op.type #[vx, vy]).run P w = .ok v' w') : (execOp ev op).run P w = .ok (.value v') w' := by
  unfold execOp
  simp only [ho, resolve, invoke, builtin, Sem.run_bind, Sem.run_pure, Result.andThen_ok, List.map_toArray, List.map_cons, List.map_nil, hx, hy, hr]
end
section
variable {ops : Array Oper} {rest : List Oper} {dst : Option Tmp} {x y : Operand} {t2 : TypeId} {pos : String} {after : Array Edge} {guard : Option (Nat × Bool)} {a : Act} {w : World} {Q : Exit → Act → World → Prop}
theorem app_L {B : Nat} {sv tv : Value} {l m : List Int} (h : Own w B sv l) (hB : B ≤ w.heap.size) (k : BytesAt w tv m) (hlen : l.length + m.length ≤ 1000000) (hx : a.eval x = sv) (hy : a.eval y = tv)
    (hw : Region.wanted ⟨dst, .call { callee := .builtin .append, args := #[x, y], argTypes := #[25, 25] }, t2, pos, after, guard⟩ (yielded ops a.tmps) = true)
    (hh : ∀ sv' w', Own w' B sv' (l ++ m) → Below B w w' → wpList Tryz.prog ops Q rest (a.put dst sv') w') : wpList Tryz.prog ops Q (⟨dst, .call { callee := .builtin .append, args := #[x, y], argTypes := #[25, 25] }, t2, pos, after, guard⟩ :: rest) a w := by
  obtain ⟨sv', w', hr, ho, hg⟩ := app_own h hB k hlen t2
  exact wpList_run sv' w' hw (exec_app a.eval _ x y 25 25 rfl sv tv sv' hx hy hr) (hh sv' w' ho (grown_below hg hB fun k hk => (h.lt k hk).1))
end
theorem Own.lit (w : World) (B : Nat) (hB : B ≤ w.heap.size) (l : List Int) (hl : l.length ≤ 1000000) (cs : Array Value) (hc : cs = (u8s l).toArray) : Own (w.alloc (.cells cs 5)) B (.slice (some ⟨w.heap.size, 0, none⟩) l.length l.length) l := by
  subst hc
  exact ⟨by simp, .inr ⟨w.heap.size, l.length, _, rfl, hB, heap_alloc_new w _, Nat.le_refl _, by simp only [maxLen]; omega, by simp, List.take_of_length_le (by simp)⟩⟩
end Go.Proofs.YthlnmdihdcfphaaGreatDoor
