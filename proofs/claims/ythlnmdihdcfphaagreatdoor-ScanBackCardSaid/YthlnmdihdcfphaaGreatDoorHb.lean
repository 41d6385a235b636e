/- Hb: stage 13's texts turned: group.Read and what it calls; items compared. -/
import Derived.Test.YthlnmdihdcfphaaGreatDoorHa
import Derived.Lib.EndianBits
import Derived.OrdersHeld
import Derived.Deep.Upon
import Derived.Lib.AppendZeros
import Derived.Deep.Cut
import Derived.Deep.CutRange
import Derived.Maps.AppendAt
import Derived.Great.BuildSlice
import Derived.Great.FillDense
import Derived.BigQuiet
import Derived.Deep.QuietTactic
import Derived.RegionTactic
namespace Go.Proofs.YthlnmdihdcfphaaGreatDoor
set_option linter.unusedSimpArgs false
set_option linter.unusedVariables false
open Go.RowKit

theorem blocks_snoc {l : List Mk} {k : Nat} {m : Mk} (h : l[k]? = some m) : blocks (l.take (k + 1)) = blocks (l.take k) + if hasBlock m.1 then 1 else 0 := by
  rw [List.take_add_one, h, blocks_append]
  simp [blocks]
theorem getD_zeros (l : List Int) (n k : Nat) : (l ++ zeros n).getD k 0 = l.getD k 0 := by
  simp only [List.getD_eq_getElem?_getD]
  by_cases h : k < l.length
  · rw [List.getElem?_append_left h]
  · rw [List.getElem?_append_right (by omega), List.getElem?_eq_none (l := l) (by omega), zeros, List.getElem?_replicate]
    split <;> rfl
def sseqOf (x : List Int) : Int := num ((x.drop 2).take 4)
def marksOf (x : List Int) (n : Nat) : List Mk := (List.range n).map fun i => (x.getD (7 + 2 * i) 0, x.getD (8 + 2 * i) 0)
theorem marksOf_length (x : List Int) (n : Nat) : (marksOf x n).length = n := by simp [marksOf]
theorem marksOf_at (x : List Int) {n i : Nat} (h : i < n) : (marksOf x n)[i]? = some (x.getD (7 + 2 * i) 0, x.getD (8 + 2 * i) 0) := by simp [marksOf, h]
theorem marksOf_snoc (x : List Int) (n : Nat) : marksOf x (n + 1) = marksOf x n ++ [(x.getD (7 + 2 * n) 0, x.getD (8 + 2 * n) 0)] := by simp [marksOf, List.range_succ]
/-- What the fields of a sector say. -/
def sreadOf (x : List Int) : Sm := ⟨sseqOf x, decide (x.getD 1 0 ≠ 0), marksOf x (min 24 (x.getD 6 0).toNat)⟩
def isSum (x : List Int) : Bool := (sreadOf x).good && decide ((sreadOf x).enc = x)
def decS (x : List Int) : Sm := if isSum x then sreadOf x else Sm.none
def sdecE (x : List Int) : Int := if isSum x then 0 else 11
theorem enc_mark (s : Sm) (k : Nat) : s.enc.getD (7 + k) 0 = (flat s.marks).getD k 0 := by
  have e : s.enc.getD (7 + k) 0 = (flat s.marks ++ zeros (57 - 2 * s.marks.length)).getD k 0 := by
    simp only [List.getD_eq_getElem?_getD, Sm.enc]
    rw [List.getElem?_append_right (by rw [pre_length]; omega), pre_length, show 7 + k - 7 = k by omega]
  rw [e, getD_zeros]
theorem enc_kind (s : Sm) (i : Nat) : s.enc.getD (7 + 2 * i) 0 = (s.marks.getD i (0, 0)).1 := by
  rw [enc_mark]
  simp only [List.getD_eq_getElem?_getD, flat_fst]
  cases s.marks[i]? <;> rfl
theorem enc_id (s : Sm) (i : Nat) : s.enc.getD (8 + 2 * i) 0 = (s.marks.getD i (0, 0)).2 := by
  rw [show 8 + 2 * i = 7 + (2 * i + 1) by omega, enc_mark]
  simp only [List.getD_eq_getElem?_getD, flat_snd]
  cases s.marks[i]? <;> rfl
theorem enc_1 (s : Sm) : s.enc.getD 1 0 = bit s.more := rfl
theorem enc_6 (s : Sm) : s.enc.getD 6 0 = s.marks.length := rfl
theorem enc_seqs (s : Sm) : (s.enc.drop 2).take 4 = le 4 s.seq := rfl
theorem marks_enc (s : Sm) : marksOf s.enc s.marks.length = s.marks := by
  apply List.ext_getElem?
  intro i
  by_cases h : i < s.marks.length
  · rw [marksOf_at _ h, enc_kind, enc_id, List.getD_eq_getElem?_getD, List.getElem?_eq_getElem h]
    rfl
  · rw [List.getElem?_eq_none (by rw [marksOf_length]; omega), List.getElem?_eq_none (by omega)]
/-- The summary of a summary's sector is it. -/
theorem sread_enc {s : Sm} (h : s.good = true) (w : s.Wf) : sreadOf s.enc = s := by
  have hl := good_len h
  obtain ⟨seq, more, marks⟩ := s
  unfold sreadOf sseqOf
  rw [enc_seqs, enc_1, enc_6, num_le4 _ w.seq]
  simp only [Int.toNat_natCast]
  have e : min 24 marks.length = marks.length := Nat.min_eq_right hl.2
  have e2 := marks_enc ⟨seq, more, marks⟩
  simp only at e2 hl ⊢
  rw [e, e2]
  cases more <;> rfl
theorem isSum_enc {s : Sm} (h : s.good = true) (w : s.Wf) : isSum s.enc = true := by
  simp [isSum, sread_enc h w, h]
/-- A sector whose count is too great is none's. -/
theorem isSum_count {x : List Int} (h : isSum x = true) (hb : 0 ≤ x.getD 6 0) : x.getD 6 0 ≤ 24 := by
  simp only [isSum, Bool.and_eq_true, decide_eq_true_eq] at h
  have e := h.2
  have e6 : (sreadOf x).enc.getD 6 0 = (sreadOf x).marks.length := enc_6 _
  rw [e] at e6
  simp only [sreadOf, marksOf_length] at e6
  omega
theorem marksOf_small {x : List Int} (h : Sc x) (n : Nat) : ∀ m ∈ marksOf x n, Small m.1 ∧ Small m.2 := fun m hm => by
  obtain ⟨i, _, rfl⟩ := List.mem_map.1 hm
  have h1 := sc_byte h (7 + 2 * i)
  have h2 := sc_byte h (8 + 2 * i)
  exact ⟨⟨by simp only; omega, by simp only; omega⟩, ⟨by simp only; omega, by simp only; omega⟩⟩
theorem sreadOf_wf {x : List Int} (h : Sc x) : (sreadOf x).Wf := ⟨seqOf_range h, marksOf_small h _⟩
set_option maxRecDepth 100000 in
theorem blocks_any (sv : Value) (l : List Mk) (hl : l.length ≤ 1000000) (w : World) (h : MarksAt w sv l) : Calls Tryz.prog 98 #[sv] w fun e w' => e = .returned (.int .i64 (blocks l)) ∧ Below w.heap.size w w' := by
  obtain ⟨a, cap, rfl, hc⟩ := id h
  have HC := Lib.hid hc
  clear h hc
  go_enter Tryz.func98, Tryz.ntmps98
  go_wp2_with fail
  go_loopg [3, 10] l.length (fun q n i wr => ∃ k : Nat, l.length - k ≤ q ∧ k ≤ l.length ∧ i = .int .i64 k ∧ n = .int .i64 (blocks (l.take k)) ∧ Below w.heap.size w wr)
  case atStart => exact ⟨0, by omega, by omega, rfl, rfl, Below.refl _ _⟩
  case round =>
    obtain ⟨k, hg, hk, rfl, rfl, hbel⟩ := hrel
    have HB := Lib.hid hbel
    clear hbel
    by_cases hlt : k < l.length
    · obtain ⟨b, o, rfl, h1, h2⟩ := HC.out k l[k] (by simp [hlt])
      have c1 := (HB.out.cell (block_lt_of_cell h1)).trans h1
      have c2 := (HB.out.cell (block_lt_of_cell h2)).trans h2
      have HBS := Lib.hid (blocks_snoc (l := l) (k := k) (m := l[k]) (by simp [hlt]))
      have hle := blocks_le (l.take k)
      have hle2 : (l.take k).length ≤ k := by simp; omega
      clear h1 h2
      generalize l[k] = m at *
      obtain ⟨mk, mi⟩ := m
      simp only at c1 c2
      have hk0 : (0 : Int) ≤ (k : Int) := by omega
      have hk1 : (k : Int) < (l.length : Int) := by omega
      have HK := Lib.hid fun w => kindOf_any mk w
      go_wp2_with fail
      refine (HK.out _).mono ?_
      rintro e w1 ⟨rfl, rfl⟩
      cases hh : hasBlock mk
      case false =>
        have HBQ := HBS.out
        simp only [hh, Bool.false_eq_true, if_false, Nat.add_zero] at HBQ
        have HBQ := Lib.hid HBQ
        clear HBS
        go_wp2_with fail
        go_roundg (l.length - (k + 1))
        case measure => omega
        case rel => exact ⟨k + 1, by omega, by omega, by go_num, by rw [HBQ.out], HB.out.alloc HB.out.size _⟩
      case true =>
        have HBQ := HBS.out
        simp only [hh, if_true] at HBQ
        have HBQ := Lib.hid HBQ
        clear HBS
        go_wp2_with fail
        go_roundg (l.length - (k + 1))
        case measure => omega
        case rel => exact ⟨k + 1, by omega, by omega, by go_num, by rw [HBQ.out]; go_num, HB.out.alloc HB.out.size _⟩
    · have hkl : k = l.length := by omega
      subst hkl
      have HE := Lib.hid (show blocks (l.take l.length) = blocks l by rw [List.take_length])
      clear hlt
      go_wp2_with fail
      go_ret
      exact ⟨by first | (rw [HE.out]; done) | (rw [HE.out]; rfl), HB.out⟩
/-- Making marks. -/
theorem make_run (n : Nat) (hn : n < 256) (w : World) : (Instr.makeSlice 184 (.int .u8 n) (.int .u8 n)).run Tryz.prog w = .ok (.slice (some ⟨w.heap.size, 0, none⟩) n n) (w.alloc (.cells (madeCells #[.int .i64 0, .int .i64 0] (n * 2)) 68)) := by
  obtain ⟨i, hi, hz, hs, hb⟩ : ∃ i, Tryz.prog.info? 68 = some i ∧ i.zero = some (.agg #[.int .i64 0, .int .i64 0]) ∧ i.size = 2 ∧ i.bytes = 16 := by
    have := info68
    cases hq : Tryz.prog.info? 68 with
    | none => simp [hq] at this
    | some i => simp [hq] at this; exact ⟨i, rfl, this⟩
  have hr := run_makeSlice (P := Tryz.prog) w 184 68 i (.agg #[.int .i64 0, .int .i64 0]) Tryz.underlying184 hi hz .u8 .u8 n n (by omega) (Int.le_refl _) (by rw [hs]; omega) (by rw [hb]; omega) (by omega)
  simpa [hs, Value.cells] using hr
/-- A sector in a variable (g), the result's variable (r), the summary's (t), its marks (m), all made behind W. -/
structure sRT (W w : World) (g r t m : Nat) (x : List Int) (q : Int) (b : Bool) (n : Nat) (l : List Int) : Prop where
  sec : Blk w g (u8s x)
  res : Blk w r [.int .u32 0, .bool false, .slice none 0 0]
  var : Blk w t [.int .u32 q, .bool b, .slice (some ⟨m, 0, none⟩) n n]
  row : Blk w m (i64s l)
  bel : Below W.heap.size W w
  g0 : W.heap.size ≤ g
  gr : g < r
  rt : r < t
  rm : r < m
  tm : t ≠ m
section
variable {W w w' : World} {g r t m : Nat} {x : List Int} {q : Int} {b : Bool} {n : Nat} {l : List Int}
theorem sRT.below (h : sRT W w g r t m x q b n l) (hb : Below w.heap.size w w') : sRT W w' g r t m x q b n l :=
  ⟨h.sec.below hb h.sec.lt, h.res.below hb h.res.lt, h.var.below hb h.var.lt, h.row.below hb h.row.lt, h.bel.trans (hb.mono h.bel.size), h.g0, h.gr, h.rt, h.rm, h.tm⟩
theorem sRT.drew (h : sRT W w g r t m x q b n l) : sRT W w.drew g r t m x q b n l := h.below (Below.refl _ _).drew
theorem sRT.setq (h : sRT W w g r t m x q b n l) (v p : Int) (e : v = p) : sRT W (w.setCell ⟨t, 0, none⟩ (.int .u32 v)) g r t m x p b n l := by
  subst e
  have ho : Only (fun k => k = t) w (w.setCell ⟨t, 0, none⟩ (.int .u32 v)) := (Only.refl (fun k => k = t) w).setCell (p := ⟨t, 0, none⟩) (.inl rfl) _
  exact ⟨h.sec.only ho (by have := h.gr; have := h.rt; omega), h.res.only ho (by have := h.rt; omega), h.var.set 0 _, h.row.only ho (fun e => h.tm e.symm), h.bel.trans (ho.below h.bel.size (fun k hk => by have := h.g0; have := h.gr; have := h.rt; omega)), h.g0, h.gr, h.rt, h.rm, h.tm⟩
theorem sRT.setm (h : sRT W w g r t m x q b n l) (i : Nat) (v : Int) : sRT W (w.setCell ⟨m, i, none⟩ (.int .i64 v)) g r t m x q b n (l.set i v) := by
  have ho : Only (fun k => k = m) w (w.setCell ⟨m, i, none⟩ (.int .i64 v)) := (Only.refl (fun k => k = m) w).setCell (p := ⟨m, i, none⟩) (.inl rfl) _
  refine ⟨h.sec.only ho (by have := h.gr; have := h.rm; omega), h.res.only ho (by have := h.rm; omega), h.var.only ho h.tm, ?_, h.bel.trans (ho.below h.bel.size (fun k hk => by have := h.g0; have := h.gr; have := h.rm; omega)), h.g0, h.gr, h.rt, h.rm, h.tm⟩
  have := h.row.set i (.int .i64 v)
  rwa [← List.map_set] at this
end
theorem info187 : (Tryz.prog.info? 187).map (·.size) = some 3 := by kernel_rfl
theorem scells_one (n : Int) (b : Bool) (a : Option Addr) (k cap : Nat) : ∀ v ∈ (#[.int .u32 n, .bool b, .slice a k cap] : Array Value), v.oneCell' = true := fun v hv => by
  simp only [List.mem_toArray, List.mem_cons, List.not_mem_nil, or_false] at hv
  rcases hv with rfl | rfl | rfl <;> rfl
section
variable {ops : Array Oper} {rest : List Oper} {dst : Option Tmp} {x y : Operand} {t2 : TypeId} {pos : String} {after : Array Edge} {guard : Option (Nat × Bool)} {a : Act} {w : World} {Q : Exit → Act → World → Prop}
theorem load187 {g off : Nat} {cs : Array Value} (hA : At w g off cs) (hs : cs.size = 3) (hx : a.eval x = .pointer (some ⟨g, off, none⟩)) (hw : Region.wanted ⟨dst, .load 187 x, t2, pos, after, guard⟩ (yielded ops a.tmps) = true)
    (h : wpList Tryz.prog ops Q rest (a.put dst (.agg cs)) w) : wpList Tryz.prog ops Q (⟨dst, .load 187 x, t2, pos, after, guard⟩ :: rest) a w :=
  wpList_load_at hw 187 x rfl g off hx cs _ Tryz.underlying187 rfl (by rw [hs]; exact info187) hA h
end
theorem two_newH (w : World) (a b : Array Value) (s u : TypeId) : Blk ((w.alloc (.cells a s)).alloc (.cells b u)).drew w.heap.size a.toList ∧ Blk ((w.alloc (.cells a s)).alloc (.cells b u)).drew (w.heap.size + 1) b.toList ∧ Below w.heap.size w ((w.alloc (.cells a s)).alloc (.cells b u)).drew := by
  refine ⟨((Blk.new w a s).alloc _).drew, ?_, (((Below.refl _ _).alloc (Nat.le_refl _) _).alloc (by simp) _).drew⟩
  have := Blk.new (w.alloc (.cells a s)) b u
  simpa using this.drew
theorem num_take (x : List Int) (h : Sc x) : ∃ a0 a1 a2 a3, x.getD 2 0 = a0 ∧ x.getD 3 0 = a1 ∧ x.getD 4 0 = a2 ∧ x.getD 5 0 = a3 ∧ (x.drop 2).take 4 = [a0, a1, a2, a3] := by
  refine ⟨_, _, _, _, rfl, rfl, rfl, rfl, ?_⟩
  have hl := h.length
  apply List.ext_getElem
  · simp [hl]
  · intro i h1 h2
    have hi : i < 4 := by simpa using h2
    rcases (show i = 0 ∨ i = 1 ∨ i = 2 ∨ i = 3 by omega) with rfl | rfl | rfl | rfl <;> simp [hl]
theorem row_step (x : List Int) {k n : Nat} (hk : k < n) : ((flat (marksOf x k) ++ zeros ((n - k) * 2)).set (k * 2) (x.getD (7 + 2 * k) 0)).set (k * 2 + 1) (x.getD (8 + 2 * k) 0) = flat (marksOf x (k + 1)) ++ zeros ((n - (k + 1)) * 2) := by
  have hz : zeros ((n - k) * 2) = 0 :: 0 :: zeros ((n - (k + 1)) * 2) := by
    rw [show (n - k) * 2 = (n - (k + 1)) * 2 + 1 + 1 by omega]
    rfl
  have hf : (flat (marksOf x k)).length = k * 2 := by rw [sflat_length, marksOf_length]; omega
  rw [hz, marksOf_snoc, flat_append, List.set_append_right _ _ (by omega), List.set_append_right _ _ (by omega), hf, Nat.sub_self, show k * 2 + 1 - k * 2 = 1 by omega]
  simp [flat]
set_option maxRecDepth 100000 in
theorem sread_any (x : List Int) (hx : Sc x) (h6 : x.getD 6 0 ≤ 24) (w : World) : Calls Tryz.prog 110 #[.agg (u8s x).toArray] w fun e w' => ∃ sv, e = .returned (.agg #[.int .u32 (sreadOf x).seq, .bool (sreadOf x).more, sv]) ∧ MarksAt w' sv (sreadOf x).marks ∧ Below w.heap.size w w' ∧ Fresh w.heap.size sv := by
  have HX := Lib.hid hx
  obtain ⟨h60, _⟩ := sc_byte hx 6
  obtain ⟨n, hn⟩ : ∃ n : Nat, x.getD 6 0 = n := ⟨(x.getD 6 0).toNat, by omega⟩
  have HN := Lib.hid hn
  have hn24 : n ≤ 24 := by omega
  have HMK := Lib.hid hn
  have hmk := make_run n (by omega)
  clear hx hn h6 h60
  go_enter Tryz.func110, Tryz.ntmps110
  repeat (first | (with_reducible refine stopR (id := 0) ?_) | go_values | go_skip | go_guarded | go_step | go_upon | go_back)
  refine Stop.mk (wp_region_lit ?_)
  refine box_g rfl rfl ?_
  intro wA hA hB hl1
  try simp only [Act.put, List.setIfInBounds_toArray, List.set_cons_succ, List.set_cons_zero]
  refine alloc_g (cs := #[.int .u32 0, .bool false, .slice none 0 0]) (by kernel_rfl) rfl ?_
  intro wB hR hB2 hl2
  try simp only [Act.put, List.setIfInBounds_toArray, List.set_cons_succ, List.set_cons_zero]
  have HA := Lib.hid (hA.below hB2 hl1)
  have HR := Lib.hid hR
  have HB := Lib.hid (hB.trans (hB2.mono hB.size))
  have HLT : Hid (w.heap.size < wA.heap.size ∧ wA.heap.size < wB.heap.size) := Lib.hid ⟨hl1, hl2⟩
  clear hA hB hl1 hR hB2 hl2
  generalize hgg : w.heap.size = g at *
  generalize hrr : wA.heap.size = r at *
  have HGG := Lib.hid hgg
  clear hgg hrr wA
  refine wpList_nil ?_
  have c1 : wB.cell? ⟨g, 1, none⟩ = some (.int .u8 (x.getD 1 0)) := HA.out.cell (sc_cell HX.out (by decide))
  have c6 : wB.cell? ⟨g, 6, none⟩ = some (.int .u8 (n : Int)) := by rw [← HN.out]; exact HA.out.cell (sc_cell HX.out (by decide))
  obtain ⟨y, hy⟩ : ∃ y, x.getD 1 0 = y := ⟨_, rfl⟩
  have HY := Lib.hid hy
  rw [hy] at c1
  clear hy
  have HRT := Lib.hid (fun (t m : Nat) (b : Bool) (w' : World) (hb : Below wB.heap.size wB w') (h1 : Blk w' t [.int .u32 0, .bool b, .slice (some ⟨m, 0, none⟩) n n]) (h2 : Blk w' m (i64s (zeros (n * 2)))) (ht : wB.heap.size ≤ t) (hm : wB.heap.size ≤ m) (hne : t ≠ m) =>
    show sRT w w' g r t m x 0 b n (zeros (n * 2)) from ⟨HA.out.below hb HA.out.lt, HR.out.below hb HR.out.lt, h1, h2, by have := HB.out.trans (hb.mono (by have := HB.out.size; have := HGG.out; omega)); first | exact this | (rw [HGG.out]; exact this), by have := HGG.out; omega, HLT.out.1, by have := HLT.out.2; omega, by have := HLT.out.2; omega, hne⟩)
  go_upto_region 1 with fail
  go_cut [3] from 7 to 14 (fun s3 wx => ∃ t m, s3 = .pointer (some ⟨t, 0, none⟩) ∧ sRT w wx g r t m x 0 (decide (y ≠ 0)) n (zeros (n * 2)))
  case first =>
    have c1o : ∀ o, (wB.alloc o).cell? ⟨g, 1, none⟩ = some (.int .u8 y) := fun o => (((Below.refl _ _).alloc (Nat.le_refl _) o).cell (block_lt_of_cell c1)).trans c1
    have c6o : ∀ o, (wB.alloc o).cell? ⟨g, 6, none⟩ = some (.int .u8 (n : Int)) := fun o => (((Below.refl _ _).alloc (Nat.le_refl _) o).cell (block_lt_of_cell c6)).trans c6
    have c1p : ∀ o o', ((wB.alloc o).alloc o').cell? ⟨g, 1, none⟩ = some (.int .u8 y) := fun o o' => (((Below.refl _ _).alloc (Nat.le_refl _) o').cell (block_lt_of_cell (c1o o))).trans (c1o o)
    have c6p : ∀ o o', ((wB.alloc o).alloc o').cell? ⟨g, 6, none⟩ = some (.int .u8 (n : Int)) := fun o o' => (((Below.refl _ _).alloc (Nat.le_refl _) o').cell (block_lt_of_cell (c6o o))).trans (c6o o)
    by_cases hy0 : y = 0
    · subst hy0
      go_region
      · go_wp2_with fail
        go_meet
        refine ⟨wB.heap.size + 1, wB.heap.size, rfl, ?_⟩
        obtain ⟨q1, q2, q3⟩ := two_newH wB (madeCells #[.int .i64 0, .int .i64 0] (n * 2)) #[.int .u32 0, .bool false, .slice (some ⟨wB.heap.size, 0, none⟩) n n] 68 187
        rw [made_marks] at q1
        exact HRT.out _ _ false _ q3 q2 q1 (by omega) (by omega) (by omega)
      · go_wp2_with fail
        go_meet
        refine ⟨wB.heap.size, wB.heap.size + 1, rfl, ?_⟩
        obtain ⟨q1, q2, q3⟩ := two_newH wB #[.int .u32 0, .bool false, .slice (some ⟨wB.heap.size + 1, 0, none⟩) n n] (madeCells #[.int .i64 0, .int .i64 0] (n * 2)) 187 68
        rw [made_marks] at q2
        exact HRT.out _ _ false _ q3 q1 q2 (by omega) (by omega) (by omega)
    · go_region
      · go_wp2_with fail
        go_meet
        refine ⟨wB.heap.size + 1, wB.heap.size, rfl, ?_⟩
        obtain ⟨q1, q2, q3⟩ := two_newH wB (madeCells #[.int .i64 0, .int .i64 0] (n * 2)) #[.int .u32 0, .bool true, .slice (some ⟨wB.heap.size, 0, none⟩) n n] 68 187
        rw [made_marks] at q1
        rw [show decide (y ≠ 0) = true from decide_eq_true hy0, show (y != 0) = true from by simp [hy0]]
        exact HRT.out _ _ true _ q3 q2 q1 (by omega) (by omega) (by omega)
      · go_wp2_with fail
        go_meet
        refine ⟨wB.heap.size, wB.heap.size + 1, rfl, ?_⟩
        obtain ⟨q1, q2, q3⟩ := two_newH wB #[.int .u32 0, .bool true, .slice (some ⟨wB.heap.size + 1, 0, none⟩) n n] (madeCells #[.int .i64 0, .int .i64 0] (n * 2)) 187 68
        rw [made_marks] at q2
        rw [show decide (y ≠ 0) = true from decide_eq_true hy0, show (y != 0) = true from by simp [hy0]]
        exact HRT.out _ _ true _ q3 q1 q2 (by omega) (by omega) (by omega)
  case rest =>
    obtain ⟨t, m, rfl, hrt⟩ := hcut
    have HRT := Lib.hid hrt
    rw [show decide (y ≠ 0) = (sreadOf x).more from by rw [← HY.out]; rfl] at HRT
    clear c1 c6 HY hmk hrt HA HR HB HLT
    generalize hbb : (sreadOf x).more = b at *
    obtain ⟨a0, a1, a2, a3, e0, e1, e2, e3, hseq⟩ := num_take x HX.out
    obtain ⟨p0, q0⟩ := sc_byte HX.out 2
    obtain ⟨p1, q1⟩ := sc_byte HX.out 3
    obtain ⟨p2, q2⟩ := sc_byte HX.out 4
    obtain ⟨p3, q3⟩ := sc_byte HX.out 5
    rw [e0] at p0 q0
    rw [e1] at p1 q1
    rw [e2] at p2 q2
    rw [e3] at p3 q3
    have HA0 := Lib.hid e0
    have HA1 := Lib.hid e1
    have HA2 := Lib.hid e2
    have HA3 := Lib.hid e3
    have HSQ := Lib.hid (show (sreadOf x).seq = num [a0, a1, a2, a3] from by rw [← hseq]; rfl)
    have HBB := Lib.hid hbb
    clear e0 e1 e2 e3 hseq hbb
    go_wp2_with fail
    go_loopg [14] 4 (fun q i wr => ∃ k : Nat, 4 - k ≤ q ∧ k ≤ 4 ∧ i = .int .i64 k ∧ sRT w wr g r t m x (num ([a0, a1, a2, a3].take k)) b n (zeros (n * 2)))
    case atStart => exact ⟨0, by omega, by omega, rfl, HRT.out⟩
    case round =>
      obtain ⟨k, hgk, hk, rfl, hr⟩ := hrel
      have HR := Lib.hid hr
      clear hr HRT
      rcases (show k = 0 ∨ k = 1 ∨ k = 2 ∨ k = 3 ∨ k = 4 by omega) with rfl | rfl | rfl | rfl | rfl
      · have cg : wr.cell? ⟨g, 2, none⟩ = some (.int .u8 a0) := by rw [← HA0.out]; exact HR.out.sec.cell (sc_cell HX.out (by decide))
        have ct := HR.out.var.cell (i := 0) rfl
        have ft := HR.out.var.frozen 0
        simp only [List.take_succ_cons, List.take_zero, num] at ct
        go_upto_region 5 with fail
        go_region
        go_wp2_with fail
        go_roundg (4 - 1)
        case measure => omega
        case rel =>
          refine ⟨1, by omega, by omega, by go_num, ?_⟩
          refine sRT.drew ?_
          refine HR.out.setq _ _ ?_
          simp only [List.take_succ_cons, List.take_zero, num]
          rw [u32_or0 _ (by omega)]; omega
      · have cg : wr.cell? ⟨g, 3, none⟩ = some (.int .u8 a1) := by rw [← HA1.out]; exact HR.out.sec.cell (sc_cell HX.out (by decide))
        have ct := HR.out.var.cell (i := 0) rfl
        have ft := HR.out.var.frozen 0
        simp only [List.take_succ_cons, List.take_zero, num] at ct
        go_upto_region 5 with fail
        go_region
        go_wp2_with fail
        go_roundg (4 - 2)
        case measure => omega
        case rel =>
          refine ⟨2, by omega, by omega, by go_num, ?_⟩
          refine sRT.drew ?_
          refine HR.out.setq _ _ ?_
          simp only [List.take_succ_cons, List.take_zero, num]
          rw [u32_or8 _ _ (by omega) (by omega) (by omega) (by omega) (by omega)]; omega
      · have cg : wr.cell? ⟨g, 4, none⟩ = some (.int .u8 a2) := by rw [← HA2.out]; exact HR.out.sec.cell (sc_cell HX.out (by decide))
        have ct := HR.out.var.cell (i := 0) rfl
        have ft := HR.out.var.frozen 0
        simp only [List.take_succ_cons, List.take_zero, num] at ct
        go_upto_region 5 with fail
        go_region
        go_wp2_with fail
        go_roundg (4 - 3)
        case measure => omega
        case rel =>
          refine ⟨3, by omega, by omega, by go_num, ?_⟩
          refine sRT.drew ?_
          refine HR.out.setq _ _ ?_
          simp only [List.take_succ_cons, List.take_zero, num]
          rw [u32_or16 _ _ (by omega) (by omega) (by omega) (by omega) (by omega)]; omega
      · have cg : wr.cell? ⟨g, 5, none⟩ = some (.int .u8 a3) := by rw [← HA3.out]; exact HR.out.sec.cell (sc_cell HX.out (by decide))
        have ct := HR.out.var.cell (i := 0) rfl
        have ft := HR.out.var.frozen 0
        simp only [List.take_succ_cons, List.take_zero, num] at ct
        go_upto_region 5 with fail
        go_region
        go_wp2_with fail
        go_roundg (4 - 4)
        case measure => omega
        case rel =>
          refine ⟨4, by omega, by omega, by go_num, ?_⟩
          refine sRT.drew ?_
          refine HR.out.setq _ _ ?_
          simp only [List.take_succ_cons, List.take_zero, num]
          rw [u32_or24 _ _ (by omega) (by omega) (by omega) (by omega) (by omega)]; omega
      · have ct := HR.out.var.cell (i := 2) rfl
        obtain ⟨sq, hsq⟩ : ∃ q, num ([a0, a1, a2, a3].take 4) = q := ⟨_, rfl⟩
        rw [hsq] at HR
        have HQ := Lib.hid (show sq = (sreadOf x).seq from by rw [← hsq, HSQ.out]; rfl)
        clear hsq HSQ HA0 HA1 HA2 HA3
        have hn0 : (n : Int) ≤ 24 := by omega
        go_wp2_with fail
        go_loopg [33] n (fun q i wq => ∃ k : Nat, n - k ≤ q ∧ k ≤ n ∧ i = .int .i64 k ∧ sRT w wq g r t m x sq b n (flat (marksOf x k) ++ zeros ((n - k) * 2)))
        case atStart => exact ⟨0, by omega, by omega, rfl, HR.out⟩
        case round =>
          obtain ⟨k, hgk, hk, rfl, hr⟩ := hrel
          clear HR ct
          have HR := Lib.hid hr
          clear hr
          by_cases hlt : k < n
          · have HST := Lib.hid (row_step x hlt)
            have HC1 := HR.out.sec.cell (i := 7 + k * 2) (sc_cell HX.out (by omega))
            have HC2 := HR.out.sec.cell (i := 7 + k * 2 + 1) (sc_cell HX.out (by omega))
            obtain ⟨b1, b2⟩ := sc_byte HX.out (7 + k * 2)
            obtain ⟨b3, b4⟩ := sc_byte HX.out (7 + k * 2 + 1)
            rw [show 7 + 2 * k = 7 + k * 2 by omega, show 8 + 2 * k = 7 + k * 2 + 1 by omega] at HST
            generalize x.getD (7 + k * 2) 0 = mk at *
            generalize x.getD (7 + k * 2 + 1) 0 = mi at *
            have hlen : (flat (marksOf x k) ++ zeros ((n - k) * 2)).length = n * 2 := by
              rw [List.length_append, sflat_length, marksOf_length, zeros_length]
              omega
            have cm1 : ∃ v, wr.cell? ⟨m, k * 2, none⟩ = some v := ⟨_, HR.out.row.cell (i := k * 2) (List.getElem?_eq_getElem (by rw [List.length_map, hlen]; omega))⟩
            have cm2 : ∃ v, wr.cell? ⟨m, k * 2 + 1, none⟩ = some v := ⟨_, HR.out.row.cell (i := k * 2 + 1) (List.getElem?_eq_getElem (by rw [List.length_map, hlen]; omega))⟩
            obtain ⟨v1, cm1⟩ := cm1
            obtain ⟨v2, cm2⟩ := cm2
            have fm1 := HR.out.row.frozen (k * 2)
            have fm2 := HR.out.row.frozen (k * 2 + 1)
            have ct := HR.out.var.cell (i := 2) rfl
            clear hlen
            have hk0 : (0 : Int) ≤ (k : Int) := by omega
            have hk1 : (k : Int) < (n : Int) := by omega
            have hk2 : (k : Int) < 24 := by omega
            go_upto_region 11 with fail
            go_region
            go_wp2_with fail
            go_roundg (n - (k + 1))
            case measure => omega
            case rel =>
              refine ⟨k + 1, by omega, by omega, by go_num, ?_⟩
              have hs := ((HR.out.setm (k * 2) mk).setm (k * 2 + 1) mi).drew
              rw [HST.out] at hs
              exact hs
          · have hkl : k = n := by omega
            subst hkl
            have HR2 := HR.out
            rw [show flat (marksOf x k) ++ zeros ((k - k) * 2) = flat (marksOf x k) by rw [Nat.sub_self]; exact List.append_nil _] at HR2
            have HR2 := Lib.hid HR2
            clear hlt HR
            go_upto_region 13 with fail
            refine wp_region_lit ?_
            refine load187 (cs := #[.int .u32 sq, .bool b, .slice (some ⟨m, 0, none⟩) k k]) (Blk.all HR2.out.var rfl) rfl rfl rfl ?_
            try simp only [Act.put, List.setIfInBounds_toArray, List.set_cons_succ, List.set_cons_zero]
            refine store_all (cs := #[.int .u32 sq, .bool b, .slice (some ⟨m, 0, none⟩) k k]) HR2.out.res rfl info187 (scells_one _ _ _ _ _) rfl rfl rfl ?_
            intro wZ hZ hOZ hlZ
            try simp only [Act.put, List.setIfInBounds_toArray, List.set_cons_succ, List.set_cons_zero]
            have HF := Lib.hid (HR2.out.bel.trans (hOZ.below HR2.out.bel.size (fun k hk => by have := HR2.out.g0; have := HR2.out.gr; omega)))
            have HROW := Lib.hid (HR2.out.row.only hOZ (by have := HR2.out.rm; omega))
            refine wpList_nil ?_
            go_wp2_with fail
            refine bodyPost_ret (v := .agg #[.int .u32 sq, .bool b, .slice (some ⟨m, 0, none⟩) k k]) (results_cell_at rfl _ _ r 0 _ _ rfl Tryz.underlying187 rfl info187 (hZ.all rfl)) rfl ⟨_, by rw [HQ.out, HBB.out], ?_, by first | exact HF.out | (rw [HGG.out]; exact HF.out), fun b o n c e => by
              have h1 := HR2.out.rm
              have h2 := HR2.out.gr
              have h3 := HR2.out.g0
              have h4 := HGG.out
              injection e with e1 e2 e3
              injection e1 with e4
              injection e4 with e5 e6 e7
              omega⟩
            have hn : (sreadOf x).marks = marksOf x k := by
              simp only [sreadOf, HN.out, Int.toNat_natCast]
              rw [Nat.min_eq_right hn24]
            rw [hn]
            exact MarksAt.of_row HROW.out (marksOf_length x k)
theorem noMark_sm (q : Int) (b : Bool) (a : Option Addr) (n cap : Nat) : NoMark [.int .u32 q, .bool b, .slice a n cap] := fun i n m h _ => by
  match i with
  | 0 => simp at h
  | 1 => simp at h
  | 2 => simp at h
  | i + 3 => simp at h
theorem sm_one {w : World} {sv : Value} {l : List Mk} (h : MarksAt w sv l) (n : Int) (b : Bool) : ∀ v ∈ (#[.int .u32 n, .bool b, sv] : Array Value), v.oneCell' = true := by
  obtain ⟨a, cap, rfl, _⟩ := h
  exact scells_one _ _ _ _ _
theorem info5f : ∃ i, Tryz.prog.info? 5 = some i ∧ i.size = 1 := size_of info5s
theorem guard115 : Tryz.prog.eqGuardType Tryz.prog.depth 115 = false := by kernel_rfl
theorem sneq50 {l m : List Int} (hl : l.length = 64) (hm : m.length = 64) (ev : Operand → Value) (o : Oper) (w : World) {x y : Operand} {t : TypeId} (ho : o.op = .binOp .neq 115 x y t) (hx : ev x = .agg (u8s l).toArray) (hy : ev y = .agg (u8s m).toArray) : (execOp ev o).run Tryz.prog w = .ok (.value (.bool (!decide (l = m)))) w := by
  obtain ⟨i, hi, hs⟩ := info5f
  have := run_neq_ints (P := Tryz.prog) w 115 5 64 .u8 .u8 i l m Tryz.underlying115 Tryz.underlying5 hi hs hl hm
  unfold execOp
  simp only [ho, hx, hy, Sem.run_bind, run_eqGuard_agg w .neq 115 x y _ _ guard115, Result.andThen_ok, this, Sem.run_pure]
theorem built187 : Tryz.prog.built 187 [] = some #[.int .u32 0, .bool false, .slice none 0 0] := by kernel_rfl
theorem build187 (w : World) : (Instr.build 187 #[]).run Tryz.prog w = .ok (.agg #[.int .u32 0, .bool false, .slice none 0 0]) w := run_build w 187 _ _ built187
theorem zero187 : (Tryz.prog.info? 187).bind (·.zero) = some (.agg #[.int .u32 0, .bool false, .slice none 0 0]) := by kernel_rfl
theorem decS_no {x : List Int} (h : isSum x = false) : decS x = Sm.none ∧ sdecE x = 11 := by unfold decS sdecE; rw [h]; exact ⟨rfl, rfl⟩
theorem decS_yes {x : List Int} (h : isSum x = true) : decS x = sreadOf x ∧ sdecE x = 0 := by unfold decS sdecE; rw [h]; exact ⟨rfl, rfl⟩
set_option maxRecDepth 100000 in
theorem sdecode_any (x : List Int) (hx : Sc x) (w : World) : Calls Tryz.prog 96 #[.agg (u8s x).toArray] w fun e w' => ∃ sv, e = .returned (.tuple #[.agg #[.int .u32 (decS x).seq, .bool (decS x).more, sv], .int .i64 (sdecE x)]) ∧ MarksAt w' sv (decS x).marks ∧ Below w.heap.size w w' ∧ Fresh w.heap.size sv := by
  have HX := Lib.hid hx
  have HXL := Lib.hid hx.length
  obtain ⟨h60, h61⟩ := sc_byte hx 6
  obtain ⟨n, hn⟩ : ∃ n : Int, x.getD 6 0 = n := ⟨_, rfl⟩
  rw [hn] at h60 h61
  have HN := Lib.hid hn
  clear hx hn
  go_enter Tryz.func96, Tryz.ntmps96
  go_upto_region 0 with fail
  refine wp_region_lit ?_
  refine box_g rfl rfl ?_
  intro wA hA hB hl1
  try simp only [Act.put, List.setIfInBounds_toArray, List.set_cons_succ, List.set_cons_zero]
  refine alloc_g zero187 rfl ?_
  intro wB hR hB2 hl2
  try simp only [Act.put, List.setIfInBounds_toArray, List.set_cons_succ, List.set_cons_zero]
  have HA := Lib.hid (hA.below hB2 hl1)
  have HR := Lib.hid hR
  have HB := Lib.hid (hB.trans (hB2.mono hB.size))
  have HLT : Hid (w.heap.size < wA.heap.size) := Lib.hid hl1
  clear hA hB hl1 hR hB2 hl2
  generalize hrr : wA.heap.size = r at *
  clear hrr wA
  refine takeL (.int .i64 0) rfl (by go_simp) ?_
  try simp only [Act.put, List.setIfInBounds_toArray, List.set_cons_succ, List.set_cons_zero]
  refine wpList_nil ?_
  have c6 : wB.cell? ⟨w.heap.size, 6, none⟩ = some (.int .u8 n) := by rw [← HN.out]; exact HA.out.cell (sc_cell HX.out (by decide))
  by_cases h24 : 24 < n
  · have HNO : Hid (isSum x = false) := Lib.hid (by
      cases e : isSum x with
      | false => rfl
      | true =>
        have := isSum_count e (by rw [HN.out]; exact h60)
        rw [HN.out] at this
        omega)
    go_upto_region 2 with fail
    refine wp_region_lit ?_
    refine build_g (build187 _) rfl ?_
    try simp only [Act.put, List.setIfInBounds_toArray, List.set_cons_succ, List.set_cons_zero]
    refine store_all (cs := #[.int .u32 0, .bool false, .slice none 0 0]) HR.out rfl info187 (scells_one _ _ _ _ _) rfl rfl rfl ?_
    intro wZ hZ hOZ hlZ
    try simp only [Act.put, List.setIfInBounds_toArray, List.set_cons_succ, List.set_cons_zero]
    have HF := Lib.hid (HB.out.trans (hOZ.below HB.out.size (fun k hk => by have := HLT.out; omega)))
    refine takeL (.int .i64 11) rfl (by go_simp) ?_
    try simp only [Act.put, List.setIfInBounds_toArray, List.set_cons_succ, List.set_cons_zero]
    refine wpList_nil ?_
    go_wp2_with fail
    obtain ⟨e1, e2⟩ := decS_no HNO.out
    rw [e1, e2]
    refine bodyPost_ret (v := .tuple #[.agg #[.int .u32 0, .bool false, .slice none 0 0], .int .i64 11]) (results_cell_tmp rfl _ _ r 0 _ _ _ rfl rfl Tryz.underlying187 rfl info187 (hZ.all rfl)) rfl ⟨_, rfl, MarksAt.nil _ _ _, HF.out, Fresh.nil _⟩
  · have HRD := Lib.hid fun w => sread_any x HX.out (by rw [HN.out]; omega) w
    have HWF := Lib.hid (sreadOf_wf HX.out)
    have HIS := Lib.hid (show isSum x = ((sreadOf x).good && decide ((sreadOf x).enc = x)) from rfl)
    have HML : Hid ((sreadOf x).marks.length ≤ 1000000) := Lib.hid (by
      have : (sreadOf x).marks.length = min 24 (x.getD 6 0).toNat := marksOf_length _ _
      omega)
    go_upto_region 3 with fail
    refine wp_region_lit ?_
    refine load115 (cs := (u8s x).toArray) (Blk.all HA.out rfl) (by rw [u8s_size, HXL.out]) rfl rfl ?_
    try simp only [Act.put, List.setIfInBounds_toArray, List.set_cons_succ, List.set_cons_zero]
    refine wpList_op rfl fun K hK => ?_
    go_simp
    refine (HRD.out _).mono ?_
    rintro e w1 ⟨sv, rfl, hm, hb, hfr⟩
    have HFSH : Hid (Fresh w.heap.size sv) := Lib.hid fun b o n c e => Nat.le_trans HB.out.size (hfr b o n c e)
    clear hfr
    have HA1 := Lib.hid (HA.out.below hb HA.out.lt)
    have HR1 := Lib.hid (HR.out.below hb HR.out.lt)
    have HB1 := Lib.hid (HB.out.trans (hb.mono HB.out.size))
    have HM1 := Lib.hid hm
    refine hK _ _ ?_
    clear hK K hb hm HA HR HB HRD c6
    try simp only [Act.put, List.setIfInBounds_toArray, List.set_cons_succ, List.set_cons_zero]
    refine alloc_g zero187 rfl ?_
    intro wC hC hBC hlC
    try simp only [Act.put, List.setIfInBounds_toArray, List.set_cons_succ, List.set_cons_zero]
    refine store_all (cs := #[.int .u32 (sreadOf x).seq, .bool (sreadOf x).more, sv]) hC rfl info187 (sm_one HM1.out _ _) rfl rfl rfl ?_
    intro wD hD hOD hlD
    try simp only [Act.put, List.setIfInBounds_toArray, List.set_cons_succ, List.set_cons_zero]
    have hBD := hBC.trans (hOD.below hBC.size (fun k hk => Nat.le_of_eq hk.symm))
    have HA := Lib.hid (HA1.out.below hBD HA1.out.lt)
    have HR := Lib.hid (HR1.out.below hBD HR1.out.lt)
    have HB := Lib.hid (HB1.out.trans (hBD.mono HB1.out.size))
    have HM := Lib.hid (HM1.out.below hBD)
    have HT := Lib.hid hD
    clear hC hBC hlC hD hOD hlD hBD HA1 HR1 HB1 HM1
    generalize w1.heap.size = t at *
    clear w1 wC
    refine wpList_nil ?_
    go_upto_region 4 with fail
    refine wp_region_lit ?_
    refine load187 (cs := #[.int .u32 (sreadOf x).seq, .bool (sreadOf x).more, sv]) (Blk.all HT.out rfl) rfl rfl rfl ?_
    try simp only [Act.put, List.setIfInBounds_toArray, List.set_cons_succ, List.set_cons_zero]
    refine wpList_op rfl fun K hK => ?_
    go_simp
    refine (sencode_any (sreadOf x) sv HML.out HWF.out _ HM.out).mono ?_
    rintro e w2 ⟨rfl, hb⟩
    have HA2 := Lib.hid (HA.out.below hb HA.out.lt)
    have HR2 := Lib.hid (HR.out.below hb HR.out.lt)
    have HT2 := Lib.hid (HT.out.below hb HT.out.lt)
    have HB2 := Lib.hid (HB.out.trans (hb.mono HB.out.size))
    have HM2 := Lib.hid (HM.out.below hb)
    refine hK _ _ ?_
    clear hK K hb HA HR HB HM HT
    try simp only [Act.put, List.setIfInBounds_toArray, List.set_cons_succ, List.set_cons_zero]
    refine takeL (.tuple #[.agg (u8s (sreadOf x).sec).toArray, .int .i64 (sreadOf x).err]) rfl (by go_simp) ?_
    try simp only [Act.put, List.setIfInBounds_toArray, List.set_cons_succ, List.set_cons_zero]
    refine takeL (.agg (u8s (sreadOf x).sec).toArray) rfl (by go_simp) ?_
    try simp only [Act.put, List.setIfInBounds_toArray, List.set_cons_succ, List.set_cons_zero]
    refine takeL (.int .i64 (sreadOf x).err) rfl (by go_simp) ?_
    try simp only [Act.put, List.setIfInBounds_toArray, List.set_cons_succ, List.set_cons_zero]
    have HSE := Lib.hid (ssec_length (sreadOf x))
    refine alloc_g zero115 rfl ?_
    intro wC hC hBC hlC
    try simp only [Act.put, List.setIfInBounds_toArray, List.set_cons_succ, List.set_cons_zero]
    refine store_all (cs := (u8s (sreadOf x).sec).toArray) hC (by rw [u8s_size, HSE.out]; simp [zeros]) (by rw [u8s_size, HSE.out]; exact info115) (u8s_one _) rfl rfl rfl ?_
    intro wD' hD hOD hlD
    try simp only [Act.put, List.setIfInBounds_toArray, List.set_cons_succ, List.set_cons_zero]
    have hBD := hBC.trans (hOD.below hBC.size (fun k hk => Nat.le_of_eq hk.symm))
    have HA := Lib.hid (HA2.out.below hBD HA2.out.lt)
    have HR := Lib.hid (HR2.out.below hBD HR2.out.lt)
    have HT := Lib.hid (HT2.out.below hBD HT2.out.lt)
    have HB := Lib.hid (HB2.out.trans (hBD.mono HB2.out.size))
    have HM := Lib.hid (HM2.out.below hBD)
    have HY := Lib.hid hD
    clear hC hBC hlC hD hOD hlD hBD HA2 HR2 HB2 HM2 HT2
    generalize w2.heap.size = y at *
    clear w2 wC wD
    refine takeL (.int .i64 (sreadOf x).err) rfl (by go_simp) ?_
    try simp only [Act.put, List.setIfInBounds_toArray, List.set_cons_succ, List.set_cons_zero]
    refine wpList_nil ?_
    cases hg : (sreadOf x).good
    · have HNO : Hid (isSum x = false) := Lib.hid (by rw [HIS.out, hg]; rfl)
      rw [show (sreadOf x).err = 11 from by unfold Sm.err; rw [hg]; rfl]
      clear hg HIS HWF
      go_upto_region 6 with fail
      refine wp_region_lit ?_
      refine build_g (build187 _) rfl ?_
      try simp only [Act.put, List.setIfInBounds_toArray, List.set_cons_succ, List.set_cons_zero]
      refine store_all (cs := #[.int .u32 0, .bool false, .slice none 0 0]) HR.out rfl info187 (scells_one _ _ _ _ _) rfl rfl rfl ?_
      intro wZ hZ hOZ hlZ
      try simp only [Act.put, List.setIfInBounds_toArray, List.set_cons_succ, List.set_cons_zero]
      have HF := Lib.hid (HB.out.trans (hOZ.below HB.out.size (fun k hk => by have := HLT.out; omega)))
      refine takeL (.int .i64 11) rfl (by go_simp) ?_
      try simp only [Act.put, List.setIfInBounds_toArray, List.set_cons_succ, List.set_cons_zero]
      refine wpList_nil ?_
      go_wp2_with fail
      obtain ⟨e1, e2⟩ := decS_no HNO.out
      rw [e1, e2]
      refine bodyPost_ret (v := .tuple #[.agg #[.int .u32 0, .bool false, .slice none 0 0], .int .i64 11]) (results_cell_tmp rfl _ _ r 0 _ _ _ rfl rfl Tryz.underlying187 rfl info187 (hZ.all rfl)) rfl ⟨_, rfl, MarksAt.nil _ _ _, HF.out, Fresh.nil _⟩
    · rw [show (sreadOf x).err = 0 from by unfold Sm.err; rw [hg]; rfl]
      rw [show (sreadOf x).sec = (sreadOf x).enc from by unfold Sm.sec; rw [hg]; rfl] at HY HSE
      go_upto_region 5 with fail
      refine wp_region_lit ?_
      refine takeL (.int .i64 0) rfl (by go_simp) ?_
      try simp only [Act.put, List.setIfInBounds_toArray, List.set_cons_succ, List.set_cons_zero]
      refine takeL (.bool false) rfl (by go_simp) ?_
      try simp only [Act.put, List.setIfInBounds_toArray, List.set_cons_succ, List.set_cons_zero]
      refine takeL (.bool false) rfl (by go_simp) ?_
      try simp only [Act.put, List.setIfInBounds_toArray, List.set_cons_succ, List.set_cons_zero]
      refine load115 (cs := (u8s (sreadOf x).enc).toArray) (Blk.all HY.out rfl) (by rw [u8s_size, HSE.out]) rfl rfl ?_
      try simp only [Act.put, List.setIfInBounds_toArray, List.set_cons_succ, List.set_cons_zero]
      refine load115 (cs := (u8s x).toArray) (Blk.all HA.out rfl) (by rw [u8s_size, HXL.out]) rfl rfl ?_
      try simp only [Act.put, List.setIfInBounds_toArray, List.set_cons_succ, List.set_cons_zero]
      refine takeL (.bool (!decide ((sreadOf x).enc = x))) rfl (sneq50 HSE.out HXL.out _ _ _ rfl rfl rfl) ?_
      try simp only [Act.put, List.setIfInBounds_toArray, List.set_cons_succ, List.set_cons_zero]
      by_cases he : (sreadOf x).enc = x
      · have HYES : Hid (isSum x = true) := Lib.hid (by rw [HIS.out, hg, decide_eq_true he]; rfl)
        rw [show (!decide ((sreadOf x).enc = x)) = false from by rw [decide_eq_true he]; rfl]
        clear hg HIS HWF he
        refine takeL (.bool false) rfl (by go_simp) ?_
        try simp only [Act.put, List.setIfInBounds_toArray, List.set_cons_succ, List.set_cons_zero]
        refine wpList_nil ?_
        go_upto_region 7 with fail
        refine wp_region_lit ?_
        refine load187 (cs := #[.int .u32 (sreadOf x).seq, .bool (sreadOf x).more, sv]) (Blk.all HT.out rfl) rfl rfl rfl ?_
        try simp only [Act.put, List.setIfInBounds_toArray, List.set_cons_succ, List.set_cons_zero]
        refine store_all (cs := #[.int .u32 (sreadOf x).seq, .bool (sreadOf x).more, sv]) HR.out rfl info187 (sm_one HM.out _ _) rfl rfl rfl ?_
        intro wZ hZ hOZ hlZ
        try simp only [Act.put, List.setIfInBounds_toArray, List.set_cons_succ, List.set_cons_zero]
        have HF := Lib.hid (HB.out.trans (hOZ.below HB.out.size (fun k hk => by have := HLT.out; omega)))
        have HMF := Lib.hid (HM.out.only hOZ HR.out (noMark_sm _ _ _ _ _))
        refine takeL (.int .i64 0) rfl (by go_simp) ?_
        try simp only [Act.put, List.setIfInBounds_toArray, List.set_cons_succ, List.set_cons_zero]
        refine wpList_nil ?_
        go_wp2_with fail
        obtain ⟨e1, e2⟩ := decS_yes HYES.out
        rw [e1, e2]
        refine bodyPost_ret (v := .tuple #[.agg #[.int .u32 (sreadOf x).seq, .bool (sreadOf x).more, sv], .int .i64 0]) (results_cell_tmp rfl _ _ r 0 _ _ _ rfl rfl Tryz.underlying187 rfl info187 (hZ.all rfl)) rfl ⟨_, rfl, HMF.out, HF.out, HFSH.out⟩
      · have HNO : Hid (isSum x = false) := Lib.hid (by rw [HIS.out, hg, decide_eq_false he]; rfl)
        rw [show (!decide ((sreadOf x).enc = x)) = true from by rw [decide_eq_false he]; rfl]
        clear hg HIS HWF he
        refine takeL (.bool true) rfl (by go_simp) ?_
        try simp only [Act.put, List.setIfInBounds_toArray, List.set_cons_succ, List.set_cons_zero]
        refine wpList_nil ?_
        go_upto_region 6 with fail
        refine wp_region_lit ?_
        refine build_g (build187 _) rfl ?_
        try simp only [Act.put, List.setIfInBounds_toArray, List.set_cons_succ, List.set_cons_zero]
        refine store_all (cs := #[.int .u32 0, .bool false, .slice none 0 0]) HR.out rfl info187 (scells_one _ _ _ _ _) rfl rfl rfl ?_
        intro wZ hZ hOZ hlZ
        try simp only [Act.put, List.setIfInBounds_toArray, List.set_cons_succ, List.set_cons_zero]
        have HF := Lib.hid (HB.out.trans (hOZ.below HB.out.size (fun k hk => by have := HLT.out; omega)))
        refine takeL (.int .i64 11) rfl (by go_simp) ?_
        try simp only [Act.put, List.setIfInBounds_toArray, List.set_cons_succ, List.set_cons_zero]
        refine wpList_nil ?_
        go_wp2_with fail
        obtain ⟨e1, e2⟩ := decS_no HNO.out
        rw [e1, e2]
        refine bodyPost_ret (v := .tuple #[.agg #[.int .u32 0, .bool false, .slice none 0 0], .int .i64 11]) (results_cell_tmp rfl _ _ r 0 _ _ _ rfl rfl Tryz.underlying187 rfl info187 (hZ.all rfl)) rfl ⟨_, rfl, MarksAt.nil _ _ _, HF.out, Fresh.nil _⟩
theorem isZ_iff (b : Bk) : b.isZ = true ↔ b = Bk.none := by
  obtain ⟨k, i, p, o, y, v, h⟩ := b
  simp [Bk.isZ, Bk.none, and_assoc]
theorem ok_has {x : It} (h : x.ok = true) (k : x.has = true) : x.blk.kind = x.mark.1 ∧ x.blk.id = x.mark.2 ∧ x.blk.good = true := by
  simp only [It.ok, It.fits, Bool.and_eq_true, k, if_true, decide_eq_true_eq] at h
  exact ⟨h.2.1.1, h.2.1.2, h.2.2⟩
theorem ok_not {x : It} (h : x.ok = true) (k : x.has = false) : x.blk = Bk.none := by
  simp only [It.ok, It.fits, Bool.and_eq_true, k, Bool.false_eq_true, if_false] at h
  exact (isZ_iff _).1 h.2
theorem parts_le (n : Nat) : n ≤ 24 * parts n := by unfold parts; omega
theorem lay2_length (n : Int) (l : List It) : (lay2 n l).1.length = parts l.length + blocks (marks l) := by
  rw [lay2, layTo_length, List.take_of_length_le (parts_le _)]
theorem part_sc {p : List It} (w : ∀ x ∈ p, x.Wf) (n : Int) (m : Bool) : ∀ y ∈ partOf n m p, Sc y := by
  intro y hy
  rcases List.mem_cons.1 hy with rfl | hy
  · exact sec_sc _
  · obtain ⟨x, hx, rfl⟩ := List.mem_map.1 hy
    exact bsec_sc (w x ((List.mem_filter.1 hx).1)).b n
theorem mem_chunk {l : List It} {k : Nat} {x : It} (h : x ∈ chunk l k) : x ∈ l := List.mem_of_mem_drop (List.mem_of_mem_take h)
theorem layTo_sc {l : List It} (w : ∀ x ∈ l, x.Wf) (n : Int) (k : Nat) : ∀ y ∈ (layTo n l k).1, Sc y := by
  induction k with
  | zero => intro y hy; cases hy
  | succ k ih =>
    intro y hy
    rw [layTo_succ] at hy
    rcases List.mem_append.1 hy with hy | hy
    · exact ih y hy
    · exact part_sc (fun x hx => w x (mem_chunk hx)) _ _ y hy
/-- The items of marks whose blocks sectors begin with. -/
def itemsP : List Mk → List (List Int) → Option (List It)
  | [], _ => some []
  | m :: r, s => if hasBlock m.1 then (match s with
      | [] => none
      | y :: t => if isBlock y then (itemsP r t).map (⟨m, readOf y⟩ :: ·) else none)
    else (itemsP r s).map (⟨m, Bk.none⟩ :: ·)
/-- The items that the parts tell of with which sectors begin, and how many sectors these are. -/
def gat (L : List (List Int)) : Nat → List It → Nat → List It × Nat
  | 0, _, _ => ([], 0)
  | f + 1, its, t => match L[t]? with
    | none => ([], 0)
    | some y => if its.length ≤ 64 ∧ isSum y = true then (match itemsP (sreadOf y).marks (L.drop (t + 1)) with
        | none => ([], 0)
        | some p => if (sreadOf y).more then gat L f (its ++ p) (t + (1 + blocks (sreadOf y).marks)) else (its ++ p, t + (1 + blocks (sreadOf y).marks)))
      else ([], 0)
def gather (L : List (List Int)) : List It × Nat := gat L (L.length + 1) [] 0
/-- The group with which sectors begin. -/
def readP (n : Int) (L : List (List Int)) : Option (List It) := if mayBe (gather L).1 && decide ((lay2 n (gather L).1).1 = L.take (gather L).2) then some (gather L).1 else none
theorem marks_good {l : List It} (h : mayBe l = true) {k : Nat} (hk : k < parts l.length) : goodMarks (marks (chunk l k)) = true := by
  obtain ⟨h1, h2, h3, -⟩ := mayBe_iff.1 h
  have hp : parts l.length = (l.length + 23) / 24 := rfl
  unfold goodMarks
  simp only [Bool.and_eq_true, decide_eq_true_eq, List.all_eq_true, List.length_map, List.length_take, List.length_drop]
  refine ⟨⟨by omega, by omega⟩, fun m hm => ?_⟩
  obtain ⟨x, hx, rfl⟩ := List.mem_map.1 hm
  exact ok_mark (h3 x (mem_chunk hx))
theorem head_sum {p : List It} (hg : goodMarks (marks p) = true) (w : ∀ x ∈ p, x.Wf) {n : Int} (hn : Seq32 n) (m : Bool) : isSum (headOfPart n m p) = true ∧ sreadOf (headOfPart n m p) = ⟨n, m, marks p⟩ ∧ headOfPart n m p = Sm.enc ⟨n, m, marks p⟩ := by
  have hs : Sm.good ⟨n, m, marks p⟩ = true := hg
  have hw : Sm.Wf ⟨n, m, marks p⟩ := ⟨hn, fun q hq => by
    obtain ⟨x, hx, rfl⟩ := List.mem_map.1 hq
    exact ⟨(w x hx).k, (w x hx).i⟩⟩
  have e : headOfPart n m p = Sm.enc ⟨n, m, marks p⟩ := by
    unfold headOfPart Sm.sec
    rw [if_pos hs]
  rw [e]
  exact ⟨isSum_enc hs hw, sread_enc hs hw, rfl⟩
theorem body_is {x : It} (h : x.ok = true) (k : x.has = true) (w : x.Wf) {n : Int} (hn : Seq32 n) : isBlock (x.blk.sec n) = true ∧ readOf (x.blk.sec n) = x.blk ∧ seqOf (x.blk.sec n) = n ∧ x.blk.sec n = x.blk.enc n := by
  have hg := (ok_has h k).2.2
  have e : x.blk.sec n = x.blk.enc n := by
    unfold Bk.sec
    rw [if_pos hg]
  rw [e]
  obtain ⟨h1, h2⟩ := read_enc hg w.b n hn
  exact ⟨isBlock_enc hg w.b n hn, h1, h2, rfl⟩
theorem itemsP_lay {p : List It} (h : ∀ x ∈ p, x.ok = true) (w : ∀ x ∈ p, x.Wf) {n : Int} (hn : Seq32 n) (r : List (List Int)) : itemsP (marks p) (bodies n p ++ r) = some p := by
  induction p with
  | nil => rfl
  | cons x q ih =>
    have ih := ih (fun y hy => h y (List.mem_cons_of_mem _ hy)) (fun y hy => w y (List.mem_cons_of_mem _ hy))
    have hx := h x (by simp)
    have hh : hasBlock x.mark.1 = x.has := rfl
    simp only [marks, List.map_cons, itemsP, hh] at ih ⊢
    cases k : x.has
    · have e := ok_not hx k
      have : bodies n (x :: q) = bodies n q := by simp [bodies, k]
      rw [this, ih]
      simp only [Bool.false_eq_true, if_false, Option.map_some]
      rw [← e]
    · obtain ⟨b1, b2, -, -⟩ := body_is hx k (w x (by simp)) hn
      have : bodies n (x :: q) = x.blk.sec n :: bodies n q := by simp [bodies, k]
      rw [this, List.cons_append]
      simp only [if_true, b1, ih, Option.map_some, b2]
theorem gat_step {L : List (List Int)} {n : Int} (hn : Seq32 n) {m : Bool} {p : List It} {t : Nat} {r : List (List Int)} (hL : L.drop t = partOf n m p ++ r) (hg : goodMarks (marks p) = true) (hp : ∀ x ∈ p, x.ok = true) (w : ∀ x ∈ p, x.Wf) (f : Nat) (its : List It) (hi : its.length ≤ 64) :
    gat L (f + 1) its t = if m then gat L f (its ++ p) (t + (1 + blocks (marks p))) else (its ++ p, t + (1 + blocks (marks p))) := by
  obtain ⟨s1, s2, -⟩ := head_sum hg w hn m
  have h0 : L[t]? = some (headOfPart n m p) := by
    have := congrArg (fun z => z[0]?) hL
    simpa [partOf] using this
  have h1 : L.drop (t + 1) = bodies n p ++ r := by
    have := congrArg List.tail hL
    simpa [partOf] using this
  simp only [gat, h0, s1, hi, and_self, if_true, s2, h1, itemsP_lay hp w hn r]
/-- What the parts behind k tell of is told from k on. -/
theorem gat_lay {n : Int} {l : List It} (h : mayBe l = true) (w : ∀ x ∈ l, x.Wf) {L : List (List Int)} (hL : (lay2 n l).1 <+: L) :
    ∀ j k f, k + j + 1 = parts l.length → j < f → gat L f (l.take (24 * k)) (layTo n l k).1.length = (l, (lay2 n l).1.length) := by
  have hM := mayBe_iff.1 h
  have hpre : ∀ k, k ≤ parts l.length → (layTo n l k).1 <+: L := fun k hk => by
    refine List.IsPrefix.trans ?_ hL
    unfold lay2
    obtain ⟨d, hd⟩ := Nat.exists_eq_add_of_le hk
    rw [hd]
    clear hd hk
    induction d with
    | zero => exact List.prefix_refl _
    | succ d ih => rw [← Nat.add_assoc, layTo_succ]; exact ih.trans (List.prefix_append _ _)
  have hpt : ∀ k, k < parts l.length → ∃ r, L.drop (layTo n l k).1.length = partOf ((n + k) % M32) (decide (24 * k + 24 < l.length)) (chunk l k) ++ r := fun k hk => by
    obtain ⟨r, hr⟩ := hpre (k + 1) hk
    rw [layTo_succ, List.append_assoc] at hr
    exact ⟨r, by rw [← hr, List.drop_left]⟩
  have hpp : parts l.length = (l.length + 23) / 24 := rfl
  have hlen : ∀ k, (layTo n l (k + 1)).1.length = (layTo n l k).1.length + (1 + blocks (marks (chunk l k))) := fun k => by
    rw [layTo_succ, List.length_append, partOf_length]
  intro j
  induction j with
  | zero =>
    intro k f hk hf
    obtain ⟨f, rfl⟩ : ∃ g, f = g + 1 := ⟨f - 1, by omega⟩
    obtain ⟨r, hr⟩ := hpt k (by omega)
    have hm : decide (24 * k + 24 < l.length) = false := decide_eq_false (by omega)
    rw [gat_step (seq_mod _) hr (marks_good h (by omega)) (fun x hx => hM.2.2.1 x (mem_chunk hx)) (fun x hx => w x (mem_chunk hx)) f _ (by rw [List.length_take]; omega), hm]
    simp only [Bool.false_eq_true, if_false]
    rw [← take_chunk, ← hlen, List.take_of_length_le (by omega), lay2, ← hk]
  | succ j ih =>
    intro k f hk hf
    obtain ⟨f, rfl⟩ : ∃ g, f = g + 1 := ⟨f - 1, by omega⟩
    obtain ⟨r, hr⟩ := hpt k (by omega)
    have hm : decide (24 * k + 24 < l.length) = true := decide_eq_true (by omega)
    rw [gat_step (seq_mod _) hr (marks_good h (by omega)) (fun x hx => hM.2.2.1 x (mem_chunk hx)) (fun x hx => w x (mem_chunk hx)) f _ (by rw [List.length_take]; omega), hm]
    simp only [if_true]
    rw [← take_chunk, ← hlen]
    exact ih (k + 1) f (by omega) (by omega)
theorem gather_lay {n : Int} {l : List It} (h : mayBe l = true) (w : ∀ x ∈ l, x.Wf) {L : List (List Int)} (hL : (lay2 n l).1 <+: L) : gather L = (l, (lay2 n l).1.length) := by
  have hp := (parts_pos h).1
  have h1 := hL.length_le
  have h2 := lay2_length n l
  have := gat_lay h w hL (parts l.length - 1) 0 (L.length + 1) (by omega) (by omega)
  simpa [layTo, gather] using this
theorem readP_of {n : Int} {l : List It} (h : mayBe l = true) (w : ∀ x ∈ l, x.Wf) {L : List (List Int)} (hL : (lay2 n l).1 <+: L) : readP n L = some l := by
  have hg := gather_lay h w hL
  unfold readP
  rw [hg]
  simp only [h, Bool.true_and]
  rw [if_pos]
  exact decide_eq_true (List.prefix_iff_eq_take.1 hL)
theorem readP_some {n : Int} {l : List It} {L : List (List Int)} (h : readP n L = some l) : mayBe l = true ∧ (lay2 n l).1 <+: L ∧ gather L = (l, (gather L).2) := by
  unfold readP at h
  split at h
  · rename_i hc
    cases h
    simp only [Bool.and_eq_true, decide_eq_true_eq] at hc
    refine ⟨hc.1, ?_, rfl⟩
    rw [hc.2]
    exact List.take_prefix _ _
  · cases h
theorem itemsP_wf {ms : List Mk} (hm : ∀ m ∈ ms, Small m.1 ∧ Small m.2) {s : List (List Int)} (hs : ∀ y ∈ s, Sc y) {l : List It} (h : itemsP ms s = some l) : ∀ x ∈ l, x.Wf := by
  induction ms generalizing s l with
  | nil => cases h; intro x hx; cases hx
  | cons m r ih =>
    have hm1 := hm m (by simp)
    have hm2 := fun q hq => hm q (List.mem_cons_of_mem _ hq)
    unfold itemsP at h
    split at h
    · cases s with
      | nil => cases h
      | cons y t =>
        simp only at h
        split at h
        · obtain ⟨q, hq, rfl⟩ := Option.map_eq_some_iff.1 h
          intro x hx
          rcases List.mem_cons.1 hx with rfl | hx
          · exact ⟨hm1.1, hm1.2, readOf_wf (hs y (by simp))⟩
          · exact ih hm2 (fun z hz => hs z (List.mem_cons_of_mem _ hz)) hq x hx
        · cases h
    · obtain ⟨q, hq, rfl⟩ := Option.map_eq_some_iff.1 h
      intro x hx
      rcases List.mem_cons.1 hx with rfl | hx
      · exact ⟨hm1.1, hm1.2, none_wf⟩
      · exact ih hm2 hs hq x hx
theorem gat_wf {L : List (List Int)} (hL : ∀ y ∈ L, Sc y) : ∀ f its t, (∀ x ∈ its, It.Wf x) → ∀ x ∈ (gat L f its t).1, x.Wf := by
  intro f
  induction f with
  | zero => intro its t _ x hx; cases hx
  | succ f ih =>
    intro its t hi
    unfold gat
    split
    · intro x hx; cases hx
    · rename_i y hy
      split
      · rename_i hc
        cases e : itemsP (sreadOf y).marks (L.drop (t + 1)) with
        | none => intro x hx; cases hx
        | some p =>
          have hp := itemsP_wf (marksOf_small (hL y (List.mem_of_getElem? hy)) _) (fun z hz => hL z (List.mem_of_mem_drop hz)) e
          have ha : ∀ x ∈ its ++ p, It.Wf x := fun x hx => (List.mem_append.1 hx).elim (hi x) (hp x)
          simp only
          split
          · exact ih _ _ ha
          · exact ha
      · intro x hx; cases hx
theorem readP_wf {n : Int} {l : List It} {L : List (List Int)} (hL : ∀ y ∈ L, Sc y) (h : readP n L = some l) : ∀ x ∈ l, x.Wf := by
  have := gat_wf hL (L.length + 1) [] 0 (fun x hx => by cases hx)
  have e := (readP_some h).2.2
  unfold gather at e
  rw [e] at this
  exact this
theorem readP_iff {n : Int} {l : List It} {L : List (List Int)} (hL : ∀ y ∈ L, Sc y) : readP n L = some l ↔ mayBe l = true ∧ (∀ x ∈ l, x.Wf) ∧ (lay2 n l).1 <+: L :=
  ⟨fun h => ⟨(readP_some h).1, readP_wf hL h, (readP_some h).2.1⟩, fun ⟨h1, h2, h3⟩ => readP_of h1 h2 h3⟩
theorem el24 : Tryz.prog.underlying 77 = some (.slice (Tryz.prog.elem 77)) ∧ Tryz.prog.elem 77 = 115 := ⟨by kernel_rfl, by kernel_rfl⟩
theorem size50 (w : World) : (Go.sizeOf 115).run Tryz.prog w = .ok 64 w := by
  obtain ⟨i, hi, hs⟩ := size_of info115
  simp [Go.sizeOf, typeInfo, hi, hs]
theorem run_from24 (w : World) (a : Option Addr) (n cap f : Nat) (h1 : f ≤ n) : (Instr.sliceAt 77 (.slice a n cap) (some (.int .i64 f)) none none).run Tryz.prog w = .ok (.slice (cutA a f cap 64) (n - f) (cap - f)) w := by
  rw [run_sliceAt_slice w 77 _ _ _ _ el24.1, run_slice_l w 77 a n cap el24.1 .i64 f (by omega) (by omega), el24.2, size50]
  rfl
theorem run_upto24 (w : World) (a : Option Addr) (n cap e : Nat) (h2 : e ≤ cap) : (Instr.sliceAt 77 (.slice a n cap) none (some (.int .i64 e)) none).run Tryz.prog w = .ok (.slice (cutA a 0 cap 64) e cap) w := by
  rw [run_sliceAt_slice w 77 _ _ _ _ el24.1, run_slice_h w 77 a n cap el24.1 .i64 e (by omega) (by omega), el24.2, size50]
  rfl
theorem exec_from24 (w : World) (ev : Operand → Value) (op : Oper) (x y : Operand) (ho : op.op = .slice 77 x (some y) none none) (a : Option Addr) (n cap f : Nat) (hx : ev x = .slice a n cap) (hy : ev y = .int .i64 f) (h1 : f ≤ n) : (execOp ev op).run Tryz.prog w = .ok (.value (.slice (cutA a f cap 64) (n - f) (cap - f))) w := by
  unfold execOp
  simp only [ho, hx, hy, Option.map_some, Option.map_none, Sem.run_bind, run_from24 w a n cap f h1, Result.andThen_ok, Sem.run_pure]
theorem exec_upto24 (w : World) (ev : Operand → Value) (op : Oper) (x z : Operand) (ho : op.op = .slice 77 x none (some z) none) (a : Option Addr) (n cap e : Nat) (hx : ev x = .slice a n cap) (hz : ev z = .int .i64 e) (h2 : e ≤ cap) : (execOp ev op).run Tryz.prog w = .ok (.value (.slice (cutA a 0 cap 64) e cap)) w := by
  unfold execOp
  simp only [ho, hx, hz, Option.map_some, Option.map_none, Sem.run_bind, run_upto24 w a n cap e h2, Result.andThen_ok, Sem.run_pure]

end Go.Proofs.YthlnmdihdcfphaaGreatDoor
