/- What the fields of a sector say: the contract of the function that reads them. -/
import Derived.Test.YtbhaifdhmfmeoaaSenc
namespace Go.Proofs.Ytbhaifdhmfmeoaa
set_option linter.unusedSimpArgs false
set_option linter.unusedVariables false
open Go.RowKit

theorem info70 : (Try.prog.info? 70).map (fun i => (i.zero, i.size, i.bytes)) = some (some (.agg #[.int .i64 0, .int .i64 0]), 2, 16) := by kernel_rfl

theorem made_marks (n : Nat) : (madeCells (#[.int .i64 0, .int .i64 0] : Array Value) (n * 2)).toList = i64s (zeros (n * 2)) := by
  unfold madeCells
  apply List.ext_getElem?
  intro i
  by_cases h : i < n * 2
  · have h2 : i % 2 = 0 ∨ i % 2 = 1 := by omega
    rcases h2 with h2 | h2 <;> simp [zeros, h, h2]
  · simp [zeros, h]
/-- Making marks. -/
theorem make_run (n : Nat) (hn : n < 256) (w : World) : (Instr.makeSlice 61 (.int .u8 n) (.int .u8 n)).run Try.prog w = .ok (.slice (some ⟨w.heap.size, 0, none⟩) n n) (w.alloc (.cells (madeCells #[.int .i64 0, .int .i64 0] (n * 2)) 70)) := by
  obtain ⟨i, hi, hz, hs, hb⟩ : ∃ i, Try.prog.info? 70 = some i ∧ i.zero = some (.agg #[.int .i64 0, .int .i64 0]) ∧ i.size = 2 ∧ i.bytes = 16 := by
    have := info70
    cases hq : Try.prog.info? 70 with
    | none => simp [hq] at this
    | some i => simp [hq] at this; exact ⟨i, rfl, this⟩
  have hr := run_makeSlice (P := Try.prog) w 61 70 i (.agg #[.int .i64 0, .int .i64 0]) Try.underlying61 hi hz .u8 .u8 n n (by omega) (Int.le_refl _) (by rw [hs]; omega) (by rw [hb]; omega) (by omega)
  simpa [hs, Value.cells] using hr

/-- A sector in a variable (g), the result's variable (r), the summary's (t), its marks (m), all made behind W. -/
structure sRT (W w : World) (g r t m : Nat) (x : List Int) (q : Int) (b : Bool) (n : Nat) (l : List Int) : Prop where
  sec : Blk w g (u8s x)
  res : Blk w r [.int .u32 0, .bool false, .slice none 0 0]
  var : Blk w t [.int .u32 q, .bool b, .slice (some ⟨m, 0, none⟩) n n]
  row : Blk w m (i64s l)
  bel : Below W.heap.size W w
  g0 : W.heap.size ≤ g
  gr : g < r
  rt : r < t
  rm : r < m
  tm : t ≠ m
section
variable {W w w' : World} {g r t m : Nat} {x : List Int} {q : Int} {b : Bool} {n : Nat} {l : List Int}
theorem sRT.below (h : sRT W w g r t m x q b n l) (hb : Below w.heap.size w w') : sRT W w' g r t m x q b n l :=
  ⟨h.sec.below hb h.sec.lt, h.res.below hb h.res.lt, h.var.below hb h.var.lt, h.row.below hb h.row.lt, h.bel.trans (hb.mono h.bel.size), h.g0, h.gr, h.rt, h.rm, h.tm⟩
theorem sRT.drew (h : sRT W w g r t m x q b n l) : sRT W w.drew g r t m x q b n l := h.below (Below.refl _ _).drew
theorem sRT.setq (h : sRT W w g r t m x q b n l) (v p : Int) (e : v = p) : sRT W (w.setCell ⟨t, 0, none⟩ (.int .u32 v)) g r t m x p b n l := by
  subst e
  have ho : Only (fun k => k = t) w (w.setCell ⟨t, 0, none⟩ (.int .u32 v)) := (Only.refl (fun k => k = t) w).setCell (p := ⟨t, 0, none⟩) (.inl rfl) _
  exact ⟨h.sec.only ho (by have := h.gr; have := h.rt; omega), h.res.only ho (by have := h.rt; omega), h.var.set 0 _, h.row.only ho (fun e => h.tm e.symm), h.bel.trans (ho.below h.bel.size (fun k hk => by have := h.g0; have := h.gr; have := h.rt; omega)), h.g0, h.gr, h.rt, h.rm, h.tm⟩
theorem sRT.setm (h : sRT W w g r t m x q b n l) (i : Nat) (v : Int) : sRT W (w.setCell ⟨m, i, none⟩ (.int .i64 v)) g r t m x q b n (l.set i v) := by
  have ho : Only (fun k => k = m) w (w.setCell ⟨m, i, none⟩ (.int .i64 v)) := (Only.refl (fun k => k = m) w).setCell (p := ⟨m, i, none⟩) (.inl rfl) _
  refine ⟨h.sec.only ho (by have := h.gr; have := h.rm; omega), h.res.only ho (by have := h.rm; omega), h.var.only ho h.tm, ?_, h.bel.trans (ho.below h.bel.size (fun k hk => by have := h.g0; have := h.gr; have := h.rm; omega)), h.g0, h.gr, h.rt, h.rm, h.tm⟩
  have := h.row.set i (.int .i64 v)
  rwa [← List.map_set] at this
end
theorem info100 : (Try.prog.info? 100).map (·.size) = some 3 := by kernel_rfl
theorem info63 : (Try.prog.info? 63).map (·.size) = some 4 := by kernel_rfl
theorem scells_one (n : Int) (b : Bool) (a : Option Addr) (k cap : Nat) : ∀ v ∈ (#[.int .u32 n, .bool b, .slice a k cap] : Array Value), v.oneCell' = true := fun v hv => by
  simp only [List.mem_toArray, List.mem_cons, List.not_mem_nil, or_false] at hv
  rcases hv with rfl | rfl | rfl <;> rfl
section
variable {ops : Array Oper} {rest : List Oper} {dst : Option Tmp} {x y : Operand} {t2 : TypeId} {pos : String} {after : Array Edge} {guard : Option (Nat × Bool)} {a : Act} {w : World} {Q : Exit → Act → World → Prop}
theorem load100 {g off : Nat} {cs : Array Value} (hA : At w g off cs) (hs : cs.size = 3) (hx : a.eval x = .pointer (some ⟨g, off, none⟩)) (hw : Region.wanted ⟨dst, .load 100 x, t2, pos, after, guard⟩ (yielded ops a.tmps) = true)
    (h : wpList Try.prog ops Q rest (a.put dst (.agg cs)) w) : wpList Try.prog ops Q (⟨dst, .load 100 x, t2, pos, after, guard⟩ :: rest) a w :=
  wpList_load_at hw 100 x rfl g off hx cs _ Try.underlying100 rfl (by rw [hs]; exact info100) hA h
theorem load63 {g off : Nat} {cs : Array Value} (hA : At w g off cs) (hs : cs.size = 4) (hx : a.eval x = .pointer (some ⟨g, off, none⟩)) (hw : Region.wanted ⟨dst, .load 63 x, t2, pos, after, guard⟩ (yielded ops a.tmps) = true)
    (h : wpList Try.prog ops Q rest (a.put dst (.agg cs)) w) : wpList Try.prog ops Q (⟨dst, .load 63 x, t2, pos, after, guard⟩ :: rest) a w :=
  wpList_load_at hw 63 x rfl g off hx cs _ Try.underlying63 rfl (by rw [hs]; exact info63) hA h
end
theorem two_new (w : World) (a b : Array Value) (s u : TypeId) : Blk ((w.alloc (.cells a s)).alloc (.cells b u)).drew w.heap.size a.toList ∧ Blk ((w.alloc (.cells a s)).alloc (.cells b u)).drew (w.heap.size + 1) b.toList ∧ Below w.heap.size w ((w.alloc (.cells a s)).alloc (.cells b u)).drew := by
  refine ⟨((Blk.new w a s).alloc _).drew, ?_, (((Below.refl _ _).alloc (Nat.le_refl _) _).alloc (by simp) _).drew⟩
  have := Blk.new (w.alloc (.cells a s)) b u
  simpa using this.drew
theorem num_take (x : List Int) (h : Sc x) : ∃ a0 a1 a2 a3, x.getD 2 0 = a0 ∧ x.getD 3 0 = a1 ∧ x.getD 4 0 = a2 ∧ x.getD 5 0 = a3 ∧ (x.drop 2).take 4 = [a0, a1, a2, a3] := by
  refine ⟨_, _, _, _, rfl, rfl, rfl, rfl, ?_⟩
  have hl := h.length
  apply List.ext_getElem
  · simp [hl]
  · intro i h1 h2
    have hi : i < 4 := by simpa using h2
    rcases (show i = 0 ∨ i = 1 ∨ i = 2 ∨ i = 3 by omega) with rfl | rfl | rfl | rfl <;> simp [hl]
theorem flat_zeros (x : List Int) (n : Nat) : flat (marksOf x 0) ++ zeros (n * 2) = zeros (n * 2) := rfl
theorem row_step (x : List Int) {k n : Nat} (hk : k < n) : ((flat (marksOf x k) ++ zeros ((n - k) * 2)).set (k * 2) (x.getD (7 + 2 * k) 0)).set (k * 2 + 1) (x.getD (8 + 2 * k) 0) = flat (marksOf x (k + 1)) ++ zeros ((n - (k + 1)) * 2) := by
  have hz : zeros ((n - k) * 2) = 0 :: 0 :: zeros ((n - (k + 1)) * 2) := by
    rw [show (n - k) * 2 = (n - (k + 1)) * 2 + 1 + 1 by omega]
    rfl
  have hf : (flat (marksOf x k)).length = k * 2 := by rw [sflat_length, marksOf_length]; omega
  rw [hz, marksOf_snoc, flat_append, List.set_append_right _ _ (by omega), List.set_append_right _ _ (by omega), hf, Nat.sub_self, show k * 2 + 1 - k * 2 = 1 by omega]
  simp [flat]
theorem MarksAt.of_row {w : World} {m n cap : Nat} {l : List Mk} (h : Blk w m (i64s (flat l))) (hn : l.length = n) : MarksAt w (.slice (some ⟨m, 0, none⟩) n cap) l := by
  subst hn
  refine ⟨_, cap, rfl, fun i y hy => ⟨m, 0, rfl, ?_, ?_⟩⟩
  · rw [Nat.zero_add]
    exact h.cell (by rw [List.getElem?_map, Nat.mul_comm, flat_fst, hy]; rfl)
  · rw [Nat.zero_add]
    exact h.cell (by rw [List.getElem?_map, Nat.mul_comm, flat_snd, hy]; rfl)
set_option maxRecDepth 100000 in
theorem sread_any (x : List Int) (hx : Sc x) (h6 : x.getD 6 0 ≤ 24) (w : World) : Calls Try.prog 61 #[.agg (u8s x).toArray] w fun e w' => ∃ sv, e = .returned (.agg #[.int .u32 (sreadOf x).seq, .bool (sreadOf x).more, sv]) ∧ MarksAt w' sv (sreadOf x).marks ∧ Below w.heap.size w w' ∧ Fresh w.heap.size sv := by
  have HX := Lib.hid hx
  obtain ⟨h60, _⟩ := sc_byte hx 6
  obtain ⟨n, hn⟩ : ∃ n : Nat, x.getD 6 0 = n := ⟨(x.getD 6 0).toNat, by omega⟩
  have HN := Lib.hid hn
  have hn24 : n ≤ 24 := by omega
  have HMK := Lib.hid hn
  have hmk := make_run n (by omega)
  clear hx hn h6 h60
  go_enter Try.func61, Try.ntmps61
  repeat (first | (with_reducible refine stopR (id := 0) ?_) | go_values | go_skip | go_guarded | go_step | go_upon | go_back)
  refine Stop.mk (wp_region_lit ?_)
  refine box_g rfl rfl ?_
  intro wA hA hB hl1
  try simp only [Act.put, List.setIfInBounds_toArray, List.set_cons_succ, List.set_cons_zero]
  refine alloc_g (cs := #[.int .u32 0, .bool false, .slice none 0 0]) (by kernel_rfl) rfl ?_
  intro wB hR hB2 hl2
  try simp only [Act.put, List.setIfInBounds_toArray, List.set_cons_succ, List.set_cons_zero]
  have HA := Lib.hid (hA.below hB2 hl1)
  have HR := Lib.hid hR
  have HB := Lib.hid (hB.trans (hB2.mono hB.size))
  have HLT : Hid (w.heap.size < wA.heap.size ∧ wA.heap.size < wB.heap.size) := Lib.hid ⟨hl1, hl2⟩
  clear hA hB hl1 hR hB2 hl2
  generalize hgg : w.heap.size = g at *
  generalize hrr : wA.heap.size = r at *
  have HGG := Lib.hid hgg
  clear hgg hrr wA
  refine wpList_nil ?_
  have c1 : wB.cell? ⟨g, 1, none⟩ = some (.int .u8 (x.getD 1 0)) := HA.out.cell (sc_cell HX.out (by decide))
  have c6 : wB.cell? ⟨g, 6, none⟩ = some (.int .u8 (n : Int)) := by rw [← HN.out]; exact HA.out.cell (sc_cell HX.out (by decide))
  obtain ⟨y, hy⟩ : ∃ y, x.getD 1 0 = y := ⟨_, rfl⟩
  have HY := Lib.hid hy
  rw [hy] at c1
  clear hy
  have HRT := Lib.hid (fun (t m : Nat) (b : Bool) (w' : World) (hb : Below wB.heap.size wB w') (h1 : Blk w' t [.int .u32 0, .bool b, .slice (some ⟨m, 0, none⟩) n n]) (h2 : Blk w' m (i64s (zeros (n * 2)))) (ht : wB.heap.size ≤ t) (hm : wB.heap.size ≤ m) (hne : t ≠ m) =>
    show sRT w w' g r t m x 0 b n (zeros (n * 2)) from ⟨HA.out.below hb HA.out.lt, HR.out.below hb HR.out.lt, h1, h2, by have := HB.out.trans (hb.mono (by have := HB.out.size; have := HGG.out; omega)); first | exact this | (rw [HGG.out]; exact this), by have := HGG.out; omega, HLT.out.1, by have := HLT.out.2; omega, by have := HLT.out.2; omega, hne⟩)
  go_upto_region 1 with fail
  go_cut [3] from 7 to 14 (fun s3 wx => ∃ t m, s3 = .pointer (some ⟨t, 0, none⟩) ∧ sRT w wx g r t m x 0 (decide (y ≠ 0)) n (zeros (n * 2)))
  case first =>
    have c1o : ∀ o, (wB.alloc o).cell? ⟨g, 1, none⟩ = some (.int .u8 y) := fun o => (((Below.refl _ _).alloc (Nat.le_refl _) o).cell (block_lt_of_cell c1)).trans c1
    have c6o : ∀ o, (wB.alloc o).cell? ⟨g, 6, none⟩ = some (.int .u8 (n : Int)) := fun o => (((Below.refl _ _).alloc (Nat.le_refl _) o).cell (block_lt_of_cell c6)).trans c6
    have c1p : ∀ o o', ((wB.alloc o).alloc o').cell? ⟨g, 1, none⟩ = some (.int .u8 y) := fun o o' => (((Below.refl _ _).alloc (Nat.le_refl _) o').cell (block_lt_of_cell (c1o o))).trans (c1o o)
    have c6p : ∀ o o', ((wB.alloc o).alloc o').cell? ⟨g, 6, none⟩ = some (.int .u8 (n : Int)) := fun o o' => (((Below.refl _ _).alloc (Nat.le_refl _) o').cell (block_lt_of_cell (c6o o))).trans (c6o o)
    by_cases hy0 : y = 0
    · subst hy0
      go_region
      · go_wp2_with fail
        go_meet
        refine ⟨wB.heap.size + 1, wB.heap.size, rfl, ?_⟩
        obtain ⟨q1, q2, q3⟩ := two_new wB (madeCells #[.int .i64 0, .int .i64 0] (n * 2)) #[.int .u32 0, .bool false, .slice (some ⟨wB.heap.size, 0, none⟩) n n] 70 100
        rw [made_marks] at q1
        exact HRT.out _ _ false _ q3 q2 q1 (by omega) (by omega) (by omega)
      · go_wp2_with fail
        go_meet
        refine ⟨wB.heap.size, wB.heap.size + 1, rfl, ?_⟩
        obtain ⟨q1, q2, q3⟩ := two_new wB #[.int .u32 0, .bool false, .slice (some ⟨wB.heap.size + 1, 0, none⟩) n n] (madeCells #[.int .i64 0, .int .i64 0] (n * 2)) 100 70
        rw [made_marks] at q2
        exact HRT.out _ _ false _ q3 q1 q2 (by omega) (by omega) (by omega)
    · go_region
      · go_wp2_with fail
        go_meet
        refine ⟨wB.heap.size + 1, wB.heap.size, rfl, ?_⟩
        obtain ⟨q1, q2, q3⟩ := two_new wB (madeCells #[.int .i64 0, .int .i64 0] (n * 2)) #[.int .u32 0, .bool true, .slice (some ⟨wB.heap.size, 0, none⟩) n n] 70 100
        rw [made_marks] at q1
        rw [show decide (y ≠ 0) = true from decide_eq_true hy0, show (y != 0) = true from by simp [hy0]]
        exact HRT.out _ _ true _ q3 q2 q1 (by omega) (by omega) (by omega)
      · go_wp2_with fail
        go_meet
        refine ⟨wB.heap.size, wB.heap.size + 1, rfl, ?_⟩
        obtain ⟨q1, q2, q3⟩ := two_new wB #[.int .u32 0, .bool true, .slice (some ⟨wB.heap.size + 1, 0, none⟩) n n] (madeCells #[.int .i64 0, .int .i64 0] (n * 2)) 100 70
        rw [made_marks] at q2
        rw [show decide (y ≠ 0) = true from decide_eq_true hy0, show (y != 0) = true from by simp [hy0]]
        exact HRT.out _ _ true _ q3 q1 q2 (by omega) (by omega) (by omega)
  case rest =>
    obtain ⟨t, m, rfl, hrt⟩ := hcut
    have HRT := Lib.hid hrt
    rw [show decide (y ≠ 0) = (sreadOf x).more from by rw [← HY.out]; rfl] at HRT
    clear c1 c6 HY hmk hrt HA HR HB HLT
    generalize hbb : (sreadOf x).more = b at *
    obtain ⟨a0, a1, a2, a3, e0, e1, e2, e3, hseq⟩ := num_take x HX.out
    obtain ⟨p0, q0⟩ := sc_byte HX.out 2
    obtain ⟨p1, q1⟩ := sc_byte HX.out 3
    obtain ⟨p2, q2⟩ := sc_byte HX.out 4
    obtain ⟨p3, q3⟩ := sc_byte HX.out 5
    rw [e0] at p0 q0
    rw [e1] at p1 q1
    rw [e2] at p2 q2
    rw [e3] at p3 q3
    have HA0 := Lib.hid e0
    have HA1 := Lib.hid e1
    have HA2 := Lib.hid e2
    have HA3 := Lib.hid e3
    have HSQ := Lib.hid (show (sreadOf x).seq = num [a0, a1, a2, a3] from by rw [← hseq]; rfl)
    have HBB := Lib.hid hbb
    clear e0 e1 e2 e3 hseq hbb
    go_wp2_with fail
    go_loopg [14] 4 (fun q i wr => ∃ k : Nat, 4 - k ≤ q ∧ k ≤ 4 ∧ i = .int .i64 k ∧ sRT w wr g r t m x (num ([a0, a1, a2, a3].take k)) b n (zeros (n * 2)))
    case atStart => exact ⟨0, by omega, by omega, rfl, HRT.out⟩
    case round =>
      obtain ⟨k, hgk, hk, rfl, hr⟩ := hrel
      have HR := Lib.hid hr
      clear hr HRT
      rcases (show k = 0 ∨ k = 1 ∨ k = 2 ∨ k = 3 ∨ k = 4 by omega) with rfl | rfl | rfl | rfl | rfl
      · have cg : wr.cell? ⟨g, 2, none⟩ = some (.int .u8 a0) := by rw [← HA0.out]; exact HR.out.sec.cell (sc_cell HX.out (by decide))
        have ct := HR.out.var.cell (i := 0) rfl
        have ft := HR.out.var.frozen 0
        simp only [List.take_succ_cons, List.take_zero, num] at ct
        go_upto_region 5 with fail
        go_region
        go_wp2_with fail
        go_roundg (4 - 1)
        case measure => omega
        case rel =>
          refine ⟨1, by omega, by omega, by go_num, ?_⟩
          refine sRT.drew ?_
          refine HR.out.setq _ _ ?_
          simp only [List.take_succ_cons, List.take_zero, num]
          rw [u32_or0 _ (by omega)]; omega
      · have cg : wr.cell? ⟨g, 3, none⟩ = some (.int .u8 a1) := by rw [← HA1.out]; exact HR.out.sec.cell (sc_cell HX.out (by decide))
        have ct := HR.out.var.cell (i := 0) rfl
        have ft := HR.out.var.frozen 0
        simp only [List.take_succ_cons, List.take_zero, num] at ct
        go_upto_region 5 with fail
        go_region
        go_wp2_with fail
        go_roundg (4 - 2)
        case measure => omega
        case rel =>
          refine ⟨2, by omega, by omega, by go_num, ?_⟩
          refine sRT.drew ?_
          refine HR.out.setq _ _ ?_
          simp only [List.take_succ_cons, List.take_zero, num]
          rw [u32_or8 _ _ (by omega) (by omega) (by omega) (by omega) (by omega)]; omega
      · have cg : wr.cell? ⟨g, 4, none⟩ = some (.int .u8 a2) := by rw [← HA2.out]; exact HR.out.sec.cell (sc_cell HX.out (by decide))
        have ct := HR.out.var.cell (i := 0) rfl
        have ft := HR.out.var.frozen 0
        simp only [List.take_succ_cons, List.take_zero, num] at ct
        go_upto_region 5 with fail
        go_region
        go_wp2_with fail
        go_roundg (4 - 3)
        case measure => omega
        case rel =>
          refine ⟨3, by omega, by omega, by go_num, ?_⟩
          refine sRT.drew ?_
          refine HR.out.setq _ _ ?_
          simp only [List.take_succ_cons, List.take_zero, num]
          rw [u32_or16 _ _ (by omega) (by omega) (by omega) (by omega) (by omega)]; omega
      · have cg : wr.cell? ⟨g, 5, none⟩ = some (.int .u8 a3) := by rw [← HA3.out]; exact HR.out.sec.cell (sc_cell HX.out (by decide))
        have ct := HR.out.var.cell (i := 0) rfl
        have ft := HR.out.var.frozen 0
        simp only [List.take_succ_cons, List.take_zero, num] at ct
        go_upto_region 5 with fail
        go_region
        go_wp2_with fail
        go_roundg (4 - 4)
        case measure => omega
        case rel =>
          refine ⟨4, by omega, by omega, by go_num, ?_⟩
          refine sRT.drew ?_
          refine HR.out.setq _ _ ?_
          simp only [List.take_succ_cons, List.take_zero, num]
          rw [u32_or24 _ _ (by omega) (by omega) (by omega) (by omega) (by omega)]; omega
      · have ct := HR.out.var.cell (i := 2) rfl
        obtain ⟨sq, hsq⟩ : ∃ q, num ([a0, a1, a2, a3].take 4) = q := ⟨_, rfl⟩
        rw [hsq] at HR
        have HQ := Lib.hid (show sq = (sreadOf x).seq from by rw [← hsq, HSQ.out]; rfl)
        clear hsq HSQ HA0 HA1 HA2 HA3
        have hn0 : (n : Int) ≤ 24 := by omega
        go_wp2_with fail
        go_loopg [33] n (fun q i wq => ∃ k : Nat, n - k ≤ q ∧ k ≤ n ∧ i = .int .i64 k ∧ sRT w wq g r t m x sq b n (flat (marksOf x k) ++ zeros ((n - k) * 2)))
        case atStart => exact ⟨0, by omega, by omega, rfl, HR.out⟩
        case round =>
          obtain ⟨k, hgk, hk, rfl, hr⟩ := hrel
          clear HR ct
          have HR := Lib.hid hr
          clear hr
          by_cases hlt : k < n
          · have HST := Lib.hid (row_step x hlt)
            have HC1 := HR.out.sec.cell (i := 7 + k * 2) (sc_cell HX.out (by omega))
            have HC2 := HR.out.sec.cell (i := 7 + k * 2 + 1) (sc_cell HX.out (by omega))
            obtain ⟨b1, b2⟩ := sc_byte HX.out (7 + k * 2)
            obtain ⟨b3, b4⟩ := sc_byte HX.out (7 + k * 2 + 1)
            rw [show 7 + 2 * k = 7 + k * 2 by omega, show 8 + 2 * k = 7 + k * 2 + 1 by omega] at HST
            generalize x.getD (7 + k * 2) 0 = mk at *
            generalize x.getD (7 + k * 2 + 1) 0 = mi at *
            have hlen : (flat (marksOf x k) ++ zeros ((n - k) * 2)).length = n * 2 := by
              rw [List.length_append, sflat_length, marksOf_length, zeros_length]
              omega
            have cm1 : ∃ v, wr.cell? ⟨m, k * 2, none⟩ = some v := ⟨_, HR.out.row.cell (i := k * 2) (List.getElem?_eq_getElem (by rw [List.length_map, hlen]; omega))⟩
            have cm2 : ∃ v, wr.cell? ⟨m, k * 2 + 1, none⟩ = some v := ⟨_, HR.out.row.cell (i := k * 2 + 1) (List.getElem?_eq_getElem (by rw [List.length_map, hlen]; omega))⟩
            obtain ⟨v1, cm1⟩ := cm1
            obtain ⟨v2, cm2⟩ := cm2
            have fm1 := HR.out.row.frozen (k * 2)
            have fm2 := HR.out.row.frozen (k * 2 + 1)
            have ct := HR.out.var.cell (i := 2) rfl
            clear hlen
            have hk0 : (0 : Int) ≤ (k : Int) := by omega
            have hk1 : (k : Int) < (n : Int) := by omega
            have hk2 : (k : Int) < 24 := by omega
            go_upto_region 11 with fail
            go_region
            go_wp2_with fail
            go_roundg (n - (k + 1))
            case measure => omega
            case rel =>
              refine ⟨k + 1, by omega, by omega, by go_num, ?_⟩
              have hs := ((HR.out.setm (k * 2) mk).setm (k * 2 + 1) mi).drew
              rw [HST.out] at hs
              exact hs
          · have hkl : k = n := by omega
            subst hkl
            have HR2 := HR.out
            rw [show flat (marksOf x k) ++ zeros ((k - k) * 2) = flat (marksOf x k) by rw [Nat.sub_self]; exact List.append_nil _] at HR2
            have HR2 := Lib.hid HR2
            clear hlt HR
            go_upto_region 13 with fail
            refine wp_region_lit ?_
            refine load100 (cs := #[.int .u32 sq, .bool b, .slice (some ⟨m, 0, none⟩) k k]) (Blk.all HR2.out.var rfl) rfl rfl rfl ?_
            try simp only [Act.put, List.setIfInBounds_toArray, List.set_cons_succ, List.set_cons_zero]
            refine store_all (cs := #[.int .u32 sq, .bool b, .slice (some ⟨m, 0, none⟩) k k]) HR2.out.res rfl info100 (scells_one _ _ _ _ _) rfl rfl rfl ?_
            intro wZ hZ hOZ hlZ
            try simp only [Act.put, List.setIfInBounds_toArray, List.set_cons_succ, List.set_cons_zero]
            have HF := Lib.hid (HR2.out.bel.trans (hOZ.below HR2.out.bel.size (fun k hk => by have := HR2.out.g0; have := HR2.out.gr; omega)))
            have HROW := Lib.hid (HR2.out.row.only hOZ (by have := HR2.out.rm; omega))
            refine wpList_nil ?_
            go_wp2_with fail
            refine bodyPost_ret (v := .agg #[.int .u32 sq, .bool b, .slice (some ⟨m, 0, none⟩) k k]) (results_cell_at rfl _ _ r 0 _ _ rfl Try.underlying100 rfl info100 (hZ.all rfl)) rfl ⟨_, by rw [HQ.out, HBB.out], ?_, by first | exact HF.out | (rw [HGG.out]; exact HF.out), fun b o n c e => by
              have h1 := HR2.out.rm
              have h2 := HR2.out.gr
              have h3 := HR2.out.g0
              have h4 := HGG.out
              injection e with e1 e2 e3
              injection e1 with e4
              injection e4 with e5 e6 e7
              omega⟩
            have hn : (sreadOf x).marks = marksOf x k := by
              simp only [sreadOf, HN.out, Int.toNat_natCast]
              rw [Nat.min_eq_right hn24]
            rw [hn]
            exact MarksAt.of_row HROW.out (marksOf_length x k)
end Go.Proofs.Ytbhaifdhmfmeoaa
