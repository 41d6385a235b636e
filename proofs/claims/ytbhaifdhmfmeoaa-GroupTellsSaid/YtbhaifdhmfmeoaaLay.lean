/- Bytes of a block, wherever they lie; a sector as it is laid, part by part; copies. -/
import Derived.Test.YtbhaifdhmfmeoaaGood
namespace Go.Proofs.Ytbhaifdhmfmeoaa
set_option linter.unusedSimpArgs false
set_option linter.unusedVariables false
open Go.RowKit

/-- A slice whose values are l. -/
def BytesAt (w : World) (sv : Value) (l : List Int) : Prop := ∃ a cap, sv = .slice a l.length cap ∧ ∀ i x, l[i]? = some x → ∃ b o, a = some ⟨b, o, none⟩ ∧ w.cell? ⟨b, o + i, none⟩ = some (.int .u8 x)
theorem BytesAt.len {w : World} {sv : Value} {l : List Int} (h : BytesAt w sv l) : Len sv l.length := let ⟨a, cap, h, _⟩ := h; ⟨a, cap, h⟩
theorem BytesAt.below {w w' : World} {sv : Value} {l : List Int} (h : BytesAt w sv l) (hb : Below w.heap.size w w') : BytesAt w' sv l := by
  obtain ⟨a, cap, e, hc⟩ := h
  refine ⟨a, cap, e, fun i x hx => ?_⟩
  obtain ⟨b, o, e2, hx2⟩ := hc i x hx
  exact ⟨b, o, e2, (hb.cell (block_lt_of_cell hx2)).trans hx2⟩
theorem BytesAt.nil (w : World) (cap : Nat) (a : Option Addr) : BytesAt w (.slice a 0 cap) [] := ⟨a, cap, rfl, fun i x h => by simp at h⟩
theorem BytesAt.has {w : World} {sv : Value} {l : List Int} (h : BytesAt w sv l) (hl : 0 < l.length) : ∃ b o cap, sv = .slice (some ⟨b, o, none⟩) l.length cap ∧ ∀ i x, l[i]? = some x → w.cell? ⟨b, o + i, none⟩ = some (.int .u8 x) := by
  obtain ⟨a, cap, e, hc⟩ := h
  obtain ⟨b, o, e2, _⟩ := hc 0 l[0] (by simp [hl])
  subst e2
  refine ⟨b, o, cap, e, fun i x hx => ?_⟩
  obtain ⟨b', o', e3, hx2⟩ := hc i x hx
  cases e3
  exact hx2

theorem BAt.page_at {w : World} {g : Nat} {b : Bk} {sv : Value} (h : BAt w g b sv) (j : Nat) (v : Int) (hv : b.page[j]? = some v) : w.cell? ⟨g, 2 + j, none⟩ = some (.int .u8 v) := h.blk.cell (by
  rw [b.atP h.wf sv j (by have := (List.getElem?_eq_some_iff.1 hv).1; rwa [h.wf.page] at this), List.getElem?_map, hv]
  rfl)
theorem wrap8 {n : Int} (h0 : 0 ≤ n) (h1 : n < 256) : IntKind.u8.wrap n = n := by rw [IntKind.wrap_u8]; omega
theorem wrap32 {n : Int} (h0 : 0 ≤ n) (h1 : n < 4294967296) : IntKind.u32.wrap n = n := by rw [IntKind.wrap_u32]; omega
theorem wrap64 {n : Int} (h0 : 0 ≤ n) (h1 : n < 4294967296) : IntKind.i64.wrap n = n := by rw [IntKind.wrap_i64]; omega
/-- Numbers laid over L from o on. -/
def layI (L : List Int) (o : Nat) (bs : List Int) : List Int := L.take o ++ bs ++ L.drop (o + bs.length)
theorem lay_u8s (L : List Int) (o : Nat) (bs : List Int) : lay (u8s L) o bs = u8s (layI L o bs) := by simp [lay, layI]
theorem layI_length {L : List Int} {o : Nat} {bs : List Int} (h : o + bs.length ≤ L.length) : (layI L o bs).length = L.length := by
  simp [layI]
  omega

theorem layI_snoc {L : List Int} {o : Nat} {bs cs : List Int} (h : o + bs.length + cs.length ≤ L.length) : layI (layI L o bs) (o + bs.length) cs = layI L o (bs ++ cs) := by
  have h1 : (L.take o).length = o := by simp; omega
  have h2 : (L.take o ++ bs).length = o + bs.length := by simp; omega
  unfold layI
  rw [List.take_append_of_le_length (by omega), List.take_of_length_le (by omega), List.drop_append, List.drop_of_length_le (by omega), h2]
  simp only [List.nil_append, List.drop_drop, List.length_append, List.append_assoc]
  congr 4
  omega
theorem layI_front {H T bs : List Int} {o : Nat} (h : H.length = o) : layI (H ++ T) o bs = H ++ (bs ++ T.drop bs.length) := by
  subst h
  unfold layI
  rw [List.take_left', List.drop_append, List.drop_of_length_le (by omega)]
  · simp
  · rfl
theorem zeros_drop (n m : Nat) : (zeros n).drop m = zeros (n - m) := by simp [zeros]
theorem zeros_add (n m : Nat) : zeros (n + m) = zeros n ++ zeros m := by simp [zeros]
theorem delta_laid (i n off prev : Int) (l : List Int) (h : l.length ≤ 16) : layI (layI (((layI (2 :: i :: zeros 62) 2 (le 4 n)).set 6 off).set 7 l.length) 8 l) 24 (le 2 prev) =
    2 :: i :: (le 4 n ++ (off :: l.length :: (l ++ (zeros (16 - l.length) ++ (le 2 prev ++ zeros 38))))) := by
  have e : ((layI (2 :: i :: zeros 62) 2 (le 4 n)).set 6 off).set 7 l.length = ([2, i, n % 256, n / 256 % 256, n / 256 / 256 % 256, n / 256 / 256 / 256 % 256, off, l.length] : List Int) ++ zeros 56 := by simp [layI, le, zeros]
  rw [e, layI_front (o := 8) (by rfl), zeros_drop, show 56 - l.length = (16 - l.length) + 40 by omega, zeros_add, ← List.append_assoc l, ← List.append_assoc _ _ (zeros 40), layI_front (o := 24) (by simp [zeros]; omega), zeros_drop, le_length]
  simp [le]
theorem layI_nil (L : List Int) (o : Nat) : layI L o [] = L := by simp [layI]
/-- A block in a variable (g), the result's variable (r), both made behind W. -/
structure ES (W w : World) (g r : Nat) (b : Bk) (sv : Value) : Prop where
  bat : BAt w g b sv
  res : Blk w r (u8s (zeros 64))
  bel : Below W.heap.size W w
  g0 : W.heap.size ≤ g
  gr : g < r
theorem ES.below {W w w' : World} {g r : Nat} {b : Bk} {sv : Value} (h : ES W w g r b sv) (hb : Below w.heap.size w w') : ES W w' g r b sv :=
  ⟨h.bat.below hb h.bat.lt, h.res.below hb h.res.lt, h.bel.trans (hb.mono h.bel.size), h.g0, h.gr⟩
/-- And the sector (s). -/
structure ET (W w : World) (g r s : Nat) (b : Bk) (sv : Value) (L : List Int) : Prop where
  es : ES W w g r b sv
  sec : Blk w s (u8s L)
  rs : r < s
theorem ET.below {W w w' : World} {g r s : Nat} {b : Bk} {sv : Value} {L : List Int} (h : ET W w g r s b sv L) (hb : Below w.heap.size w w') : ET W w' g r s b sv L :=
  ⟨h.es.below hb, h.sec.below hb h.sec.lt, h.rs⟩
theorem ET.drew {W w : World} {g r s : Nat} {b : Bk} {sv : Value} {L : List Int} (h : ET W w g r s b sv L) : ET W w.drew g r s b sv L := h.below (Below.refl _ _).drew
theorem ET.put {W w w' : World} {g r s : Nat} {b : Bk} {sv : Value} {L M : List Int} (h : ET W w g r s b sv L) (hs : Blk w' s (u8s M)) (ho : Only (fun k => k = s) w w') : ET W w' g r s b sv M :=
  ⟨⟨⟨h.es.bat.blk.only ho (by have := h.rs; have := h.es.gr; omega), h.es.bat.wf⟩, h.es.res.only ho (by have := h.rs; omega), h.es.bel.trans (ho.below h.es.bel.size (fun k hk => by have := h.es.g0; have := h.es.gr; have := h.rs; omega)), h.es.g0, h.es.gr⟩, hs, h.rs⟩
theorem ET.set {W w : World} {g r s : Nat} {b : Bk} {sv : Value} {L : List Int} (h : ET W w g r s b sv L) (i : Nat) (x : Int) : ET W (w.setCell ⟨s, i, none⟩ (.int .u8 x)) g r s b sv (L.set i x) :=
  h.put (by have := h.sec.set i (.int .u8 x); rwa [← List.map_set] at this) ((Only.refl (fun k => k = s) w).setCell (p := ⟨s, i, none⟩) (.inl rfl) _)

section
variable {P : Program}
theorem wp_run {o : Oper} {a : Act} {w : World} {K : Act → World → Prop} {Q : Exit → Act → World → Prop} (v : Value) (w' : World) (hr : (execOp a.eval o).run P w = .ok (.value v) w') (h : K (a.put o.dst v) w') : o.wp P a w K Q := by
  unfold Oper.wp
  rw [hr]
  exact h
/-- A copy of l into block g, from o on. -/
theorem exec_copy (w : World) (ev : Operand → Value) (op : Oper) (x y : Operand) (ho : op.op = .call { callee := .builtin .copy, args := #[x, y], argTypes := #[54, 54] }) (hu : P.underlying 54 = some (.slice 5)) (hs : (P.info? 5).map (·.size) = some 1)
    (g o dLen dCap : Nat) (ab ao sLen sCap : Nat) (hx : ev x = .slice (some ⟨g, o, none⟩) dLen dCap) (hy : ev y = .slice (some ⟨ab, ao, none⟩) sLen sCap) (L : List Value) (l : List Int)
    (hg : Blk w g L) (hn : l.length = Nat.min sLen dLen) (hsrc : ∀ j v, l[j]? = some v → w.cell? ⟨ab, ao + j, none⟩ = some (.int .u8 v)) (hfit : o + l.length ≤ L.length) :
    ∃ w', (execOp ev op).run P w = .ok (.value (goInt l.length)) w' ∧ Blk w' g (lay L o l) ∧ Only (fun k => k = g) w w' := by
  have hg' := hg
  obtain ⟨t, ht⟩ := hg
  refine ⟨w.setRow g (lay L o l).toArray, ?_, ?_, ?_⟩
  · unfold execOp
    have := run_copy_row P w 54 54 op.type 5 g o dLen dCap ⟨ab, ao, none⟩ sLen sCap L.toArray t (l.map (Value.int .u8)) hu hs ht (by simpa using hn) (fun j v hv => by
      rw [List.getElem?_map] at hv
      cases e : l[j]? with
      | none => simp [e] at hv
      | some z =>
        simp [e] at hv
        subst hv
        have := hsrc j z e
        rwa [show (⟨ab, ao, none⟩ : Addr).add j = ⟨ab, ao + j, none⟩ by unfold Addr.add; split <;> simp_all]) (by simpa using hfit) (fun v hv => by
      obtain ⟨z, _, rfl⟩ := List.mem_map.1 hv
      rfl)
    simp only [ho, resolve, invoke, builtin, Sem.run_bind, Sem.run_pure, Result.andThen_ok, List.map_toArray, List.map_cons, List.map_nil, hx, hy, this]
    simp [lay]
  · exact hg'.row _
  · exact (Only.refl (fun k => k = g) w).setRow (.inl rfl) _
theorem wp_copy {op : Oper} {a : Act} {w : World} {K : Act → World → Prop} {Q : Exit → Act → World → Prop} (x y : Operand) (ho : op.op = .call { callee := .builtin .copy, args := #[x, y], argTypes := #[54, 54] }) (hu : P.underlying 54 = some (.slice 5)) (hs : (P.info? 5).map (·.size) = some 1)
    (g o dLen dCap : Nat) (ab ao sLen sCap : Nat) (hx : a.eval x = .slice (some ⟨g, o, none⟩) dLen dCap) (hy : a.eval y = .slice (some ⟨ab, ao, none⟩) sLen sCap) (L : List Value) (l : List Int)
    (hg : Blk w g L) (hn : l.length = Nat.min sLen dLen) (hsrc : ∀ j v, l[j]? = some v → w.cell? ⟨ab, ao + j, none⟩ = some (.int .u8 v)) (hfit : o + l.length ≤ L.length)
    (dst : Option Tmp) (hd : op.dst = dst) (h : ∀ w', Blk w' g (lay L o l) → Only (fun k => k = g) w w' → K (a.put dst (.int .i64 l.length)) w') : op.wp P a w K Q := by
  subst hd
  obtain ⟨w', hr, hb, hO⟩ := exec_copy w a.eval op x y ho hu hs g o dLen dCap ab ao sLen sCap hx hy L l hg hn hsrc hfit
  exact wp_run _ w' hr (h w' hb hO)
theorem results_cell_at {fn : Func} {p : Tmp} {ty : TypeId} (h : fn.results = #[.cell p ty]) (tmps : Array Value) (w : World) (g off : Nat) (cs : Array Value) (d : TypeDesc)
    (hp : tmps.getD p undef = .pointer (some ⟨g, off, none⟩)) (hu : P.underlying ty = some d) (hd : (match d with | .struct _ | .array _ _ => true | _ => false) = true) (hi : (P.info? ty).map (·.size) = some cs.size)
    (hc : ∀ j (h : j < cs.size), w.cell? ⟨g, off + j, none⟩ = some cs[j]) :
    (results fn tmps).run P w = .ok (.agg cs) w := by
  have hp' : tmps[p]?.getD undef = .pointer (some ⟨g, off, none⟩) := by simpa using hp
  simp [results, h, hp', asAddr, run_load_at w g off ty cs d hu hd hi hc]
theorem results_cell_tmp {fn : Func} {p q : Tmp} {ty : TypeId} (h : fn.results = #[.cell p ty, .tmp q]) (tmps : Array Value) (w : World) (g off : Nat) (cs : Array Value) (d : TypeDesc) (v : Value)
    (hp : tmps.getD p undef = .pointer (some ⟨g, off, none⟩)) (hv : tmps.getD q undef = v) (hu : P.underlying ty = some d) (hd : (match d with | .struct _ | .array _ _ => true | _ => false) = true) (hi : (P.info? ty).map (·.size) = some cs.size)
    (hc : ∀ j (h : j < cs.size), w.cell? ⟨g, off + j, none⟩ = some cs[j]) :
    (results fn tmps).run P w = .ok (.tuple #[.agg cs, v]) w := by
  have hp' : tmps[p]?.getD undef = .pointer (some ⟨g, off, none⟩) := by simpa using hp
  have hv' : tmps[q]?.getD undef = v := by simpa using hv
  simp [results, h, hp', hv', asAddr, run_load_at w g off ty cs d hu hd hi hc]
end
theorem built50k (k i : Int) : Try.prog.built 50 [(0, .int .u8 k), (1, .int .u8 i)] = some (u8s (k :: i :: zeros 62)).toArray := by kernel_rfl
theorem build50k (k i : Int) (w : World) : (Instr.build 50 #[(0, .int .u8 k), (1, .int .u8 i)]).run Try.prog w = .ok (.agg (u8s (k :: i :: zeros 62)).toArray) w := run_build w 50 _ _ (built50k k i)
theorem u8s_one (l : List Int) : ∀ v ∈ (u8s l).toArray, v.oneCell' = true := fun v hv => by
  obtain ⟨z, _, rfl⟩ := List.mem_map.1 (by simpa using hv)
  rfl
theorem u8s_size (l : List Int) : (u8s l).toArray.size = l.length := by simp
end Go.Proofs.Ytbhaifdhmfmeoaa
