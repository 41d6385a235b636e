/- The reference's Read. -/
import Derived.Test.YtbhaifdhmfmeoaaRl
import Derived.Test.YtbhaifdhmfmeoaaSrdf
import Derived.Test.YtbhaifdhmfmeoaaRdec
import Derived.Test.YtbhaifdhmfmeoaaRpu
import Derived.Test.YtbhaifdhmfmeoaaIof
namespace Go.Proofs.Ytbhaifdhmfmeoaa
set_option linter.unusedSimpArgs false
set_option linter.unusedVariables false
open Go.RowKit

theorem app_ownIw {w : World} {B : Nat} {sv tv : Value} {l m : List (It × Value)} (h : OwnI w B sv l) (hB : B ≤ w.heap.size) (k : ItemsAt w tv m) (hk : ∀ x ∈ m, Off sv.ownBlock x.2 x.1.blk.bytes) (hlen : l.length + m.length ≤ 1000000) (ty : TypeId) :
    ∃ sv' w', (Builtin.append_ #[22, 22] ty #[sv, tv]).run Try.prog w = .ok sv' w' ∧ OwnI w' B sv' (l ++ m) ∧ w.grownBy w' sv.ownBlock ∧ (sv'.ownBlock = sv.ownBlock ∨ sv'.ownBlock = some w.heap.size) := by
  obtain ⟨i, hi, hz, hs, hby⟩ := inf72
  cases m with
  | nil =>
    obtain ⟨a, c, rfl, hle⟩ := h.len
    obtain ⟨ta, tc, rfl, _⟩ := k
    refine ⟨_, w, run_append_nothing w 22 22 ty 72 i Try.underlying22 hi a l.length c hle _ ⟨.inl ⟨72, Try.underlying22⟩, fun _ => by rfl, ?_, ?_, by simp, fun u hu => by cases hu⟩, by rw [List.append_nil]; exact h, ⟨rfl, rfl, rfl, Nat.le_refl _, fun _ _ _ => rfl⟩, .inl rfl⟩
    · cases ta <;> simp [Builtin.firstCells, hs, loadCells, loadCellsFrom]
    · cases ta <;> simp [Builtin.firstCells, hs, loadCells, loadCellsFrom]
  | cons x m =>
    obtain ⟨b, o, c, rfl, hcap, hbl, hc⟩ := k.has (by simp)
    have hw : ∀ y ∈ x :: m, y.1.Wf := fun y hy => by
      obtain ⟨j, hj⟩ := List.getElem?_of_mem hy
      exact (hc j y hj).1
    have hby2 : ∀ y ∈ x :: m, BytesAt w y.2 y.1.blk.bytes := fun y hy => by
      obtain ⟨j, hj⟩ := List.getElem?_of_mem hy
      exact (hc j y hj).2.1
    obtain ⟨v', w', hr, h2, h3, _, h5⟩ := run_append_own_at (P := Try.prog) w B 22 ty 72 i (.agg (It.none.arr (.slice Option.none 0 0))) 47 168 Try.underlying22 hi hz hs hby (It.arr_size It.none_wf _) (by decide) sv l.length (itCells l) h.row ⟨b, o, Option.none⟩ (x :: m).length c (itCells (x :: m)) (itCells_length hw) (it_cells hw fun j y hj => (hc j y hj).2.2) (itCells_one fun y hy => slice_one (hby2 y hy).len) (by simp only [maxLen]; omega) (by omega) hB
    have hkept : ∀ y : It × Value, BytesAt w y.2 y.1.blk.bytes → Off sv.ownBlock y.2 y.1.blk.bytes → BytesAt w' y.2 y.1.blk.bytes ∧ Off v'.ownBlock y.2 y.1.blk.bytes := fun y hy hap =>
      ⟨bytes_kept hy hap h3.block, hap.moved hy h5⟩
    refine ⟨v', w', hr, ⟨?_, fun y hy => ?_⟩, h3, h5⟩
    · rw [List.length_append, show itCells (l ++ x :: m) = itCells l ++ itCells (x :: m) from List.flatMap_append]
      exact h2
    · rcases List.mem_append.1 hy with hy | hy
      · obtain ⟨q1, q2, q3⟩ := h.all y hy
        obtain ⟨q4, q5⟩ := hkept y q2 q3
        exact ⟨q1, q4, q5⟩
      · obtain ⟨q4, q5⟩ := hkept y (hby2 y hy) (hk y hy)
        exact ⟨hw y hy, q4, q5⟩
section
variable {ops : Array Oper} {rest : List Oper} {dst : Option Tmp} {t2 : TypeId} {pos : String} {after : Array Edge} {guard : Option (Nat × Bool)} {x y : Operand} {a : Act} {w : World} {Q : Exit → Act → World → Prop}
theorem app_LIw {B : Nat} {sv tv : Value} {l m : List (It × Value)} (h : OwnI w B sv l) (hB : B ≤ w.heap.size) (k : ItemsAt w tv m) (hk : ∀ x ∈ m, Off sv.ownBlock x.2 x.1.blk.bytes) (hlen : l.length + m.length ≤ 1000000) (hx : a.eval x = sv) (hy : a.eval y = tv)
    (hw : Region.wanted ⟨dst, .call { callee := .builtin .append, args := #[x, y], argTypes := #[22, 22] }, t2, pos, after, guard⟩ (yielded ops a.tmps) = true)
    (hh : ∀ sv' w', OwnI w' B sv' (l ++ m) → w.grownBy w' sv.ownBlock → (sv'.ownBlock = sv.ownBlock ∨ sv'.ownBlock = some w.heap.size) → wpList Try.prog ops Q rest (a.put dst sv') w') : wpList Try.prog ops Q (⟨dst, .call { callee := .builtin .append, args := #[x, y], argTypes := #[22, 22] }, t2, pos, after, guard⟩ :: rest) a w := by
  obtain ⟨sv', w', hr, ho, hg, h5⟩ := app_ownIw h hB k hk hlen t2
  exact wpList_run sv' w' hw (exec_app a.eval _ x y 22 22 rfl sv tv sv' hx hy hr) (hh sv' w' ho hg h5)
theorem lit_LI {z : It} {bv : Value} (hz : z.Wf) (hb : BytesAt w bv z.blk.bytes) (hx : a.eval x = .agg (z.arr bv))
    (hw : Region.wanted ⟨dst, .buildSlice 22 1 #[(0, x)], t2, pos, after, guard⟩ (yielded ops a.tmps) = true)
    (hh : ∀ w', ItemsAt w' (.slice (some ⟨w.heap.size, 0, none⟩) 1 1) [(z, bv)] → Below w.heap.size w w' → wpList Try.prog ops Q rest (a.put dst (.slice (some ⟨w.heap.size, 0, none⟩) 1 1)) w') : wpList Try.prog ops Q (⟨dst, .buildSlice 22 1 #[(0, x)], t2, pos, after, guard⟩ :: rest) a w := by
  have hr := run_litI w [(z, bv)] (fun q hq => by obtain rfl := List.mem_singleton.1 hq; exact hz) (by simp) (by simp)
  exact wpList_run _ _ hw (exec_buildSlice _ _ a.eval _ 22 1 _ rfl #[(0, .agg (z.arr bv))] (by simp [hx]) _ (by simpa using hr)) (hh _ (OwnI.lit (l := [(z, bv)]) (fun q hq => by obtain rfl := List.mem_singleton.1 hq; exact hz) (fun q hq => by obtain rfl := List.mem_singleton.1 hq; exact hb) (by simp)).items ((Below.refl _ _).alloc (Nat.le_refl _) _))
end
def z40 : Array Value := #[.slice none 0 0, .slice none 0 0, .int .i64 0, .int .i64 0, .bool false]
theorem zero40 : (Try.prog.info? 40).bind (·.zero) = some (.agg z40) := by kernel_rfl
theorem info40 : (Try.prog.info? 40).map (·.size) = some 5 := by kernel_rfl
theorem built40z : Try.prog.built 40 [] = some z40 := by kernel_rfl
theorem built40 (a b : Option Addr) (k c n d : Nat) (x y : Int) : Try.prog.built 40 [(0, .slice a k c), (1, .slice b n d), (2, .int .i64 x), (3, .int .i64 y), (4, .bool true)] = some #[.slice a k c, .slice b n d, .int .i64 x, .int .i64 y, .bool true] := by kernel_rfl
theorem built72rr (k i : Int) : Try.prog.built 72 [(0, .agg #[.int .i64 k, .int .i64 i])] = some (It.arr ⟨(k, i), Bk.none⟩ (.slice none 0 0)) := by kernel_rfl
theorem five_one (a b : Option Addr) (k c n d : Nat) (x y : Int) (v : Bool) : ∀ z ∈ (#[.slice a k c, .slice b n d, .int .i64 x, .int .i64 y, .bool v] : Array Value), z.oneCell' = true := fun z hz => by
  simp only [List.mem_toArray, List.mem_cons, List.not_mem_nil, or_false] at hz
  rcases hz with rfl | rfl | rfl | rfl | rfl <;> rfl
theorem z40_one : ∀ v ∈ z40, v.oneCell' = true := five_one none none 0 0 0 0 0 0 false
theorem noIt40 : NoIt z40.toList := ⟨by simp [z40], fun z hz => by simp [z40] at hz⟩
/-- What the reference's Read hands back. -/
def RReadOut (n : Int) (r : Option (List It)) (e : Ending) (w' : World) : Prop := (r = none ∧ e = .returned (.agg z40)) ∨
  ∃ iv pl av, r = some (pl.map (·.1)) ∧ e = .returned (.agg #[iv, av, .int .i64 (lay2 n (pl.map (·.1))).1.length, .int .i64 (parts pl.length), .bool true]) ∧ ItemsAt w' iv pl ∧ IntsAt w' av (lay2 n (pl.map (·.1))).2
/-- Where marks lie is not where the items' row lies. -/
def MOff (row : Option Nat) (mv : Value) : Prop := ∀ k, row = some k → ∀ b o n c, mv = .slice (some ⟨b, o, none⟩) n c → k ≠ b
theorem MarksAt.grownOff {w w' : World} {mv : Value} {l : List Mk} {row : Option Nat} (h : MarksAt w mv l) (hg : w.grownBy w' row) (hf : MOff row mv) : MarksAt w' mv l := by
  obtain ⟨a, cap, e, hc⟩ := h
  refine ⟨a, cap, e, fun i x hx => ?_⟩
  obtain ⟨b, o, e2, h1, h2⟩ := hc i x hx
  have hb := hg.block b (block_lt_of_cell h1) fun e3 => hf b e3.symm b o l.length cap (by rw [e, e2]) rfl
  exact ⟨b, o, e2, by rw [← h1]; simp only [World.cell?, hb], by rw [← h2]; simp only [World.cell?, hb]⟩
/-- What the reference's Read has come to between two parts. -/
structure GS (w wr : World) (n : Int) (L : List (List Int)) (t k f : Nat) (s5 : Value) (P : List (It × Value)) (mo : Bool) : Prop where
  rg : if mo then rg n L f (P.map (·.1)) t k = readG n L else readG n L = some (P.map (·.1), t)
  own : OwnI wr (w.heap.size + 1) s5 P
  rv : Blk wr w.heap.size z40.toList
  bel : Below w.heap.size w wr
  few : P.length ≤ 24 * t
/-- And between two marks of a part. -/
structure GI (w wr : World) (L : List (List Int)) (ms : List Mk) (t i t2 b9 : Nat) (q : Int) (mo : Bool) (mv s5 : Value) (P D : List (It × Value)) : Prop where
  its : itemsP ms (L.drop (t + 1)) = (itemsP (ms.drop i) (L.drop t2)).map (D.map (·.1) ++ ·)
  len : D.length = i
  at2 : t2 = t + 1 + blocks (ms.take i)
  own : OwnI wr (w.heap.size + 1) s5 (P ++ D)
  rv : Blk wr w.heap.size z40.toList
  v : Blk wr b9 [.int .u32 q, .bool mo, mv, .int .i64 0]
  ms : MarksAt wr mv ms
  off : MOff s5.ownBlock mv
  off9 : ∀ k, s5.ownBlock = some k → k ≠ b9
  bel : Below w.heap.size w wr
theorem GI.below {w wr w2 : World} {L : List (List Int)} {ms : List Mk} {t i t2 b9 : Nat} {q : Int} {mo : Bool} {mv s5 : Value} {P D : List (It × Value)} (h : GI w wr L ms t i t2 b9 q mo mv s5 P D) (hb : Below wr.heap.size wr w2) : GI w w2 L ms t i t2 b9 q mo mv s5 P D :=
  ⟨h.its, h.len, h.at2, h.own.below hb, h.rv.below hb h.rv.lt, h.v.below hb h.v.lt, h.ms.below hb, h.off, h.off9, stay h.bel hb⟩
theorem MarksAt.lt {w : World} {mv : Value} {l : List Mk} (h : MarksAt w mv l) (hl : 0 < l.length) {b o n c : Nat} (e : mv = .slice (some ⟨b, o, none⟩) n c) : b < w.heap.size := by
  obtain ⟨b', o', cap, e2, hc⟩ := h.has hl
  rw [e] at e2
  cases e2
  exact block_lt_of_cell (hc 0 l[0] (by simp)).1
/-- An item more. -/
theorem GI.step {w wr w2 : World} {L : List (List Int)} {ms : List Mk} {t i t2 t3 b9 : Nat} {q : Int} {mo : Bool} {mv s5 s6 : Value} {P D : List (It × Value)} (h : GI w wr L ms t i t2 b9 q mo mv s5 P D) {x : It} {bv : Value}
    (hi : itemsP ms (L.drop (t + 1)) = (itemsP (ms.drop (i + 1)) (L.drop t3)).map ((D.map (·.1) ++ [x]) ++ ·)) (h3 : t3 = t + 1 + blocks (ms.take (i + 1))) (hms : 0 < ms.length)
    (ho : OwnI w2 (w.heap.size + 1) s6 (P ++ D ++ [(x, bv)])) (hg : wr.grownBy w2 s5.ownBlock) (hr : s6.ownBlock = s5.ownBlock ∨ s6.ownBlock = some wr.heap.size) : GI w w2 L ms t (i + 1) t3 b9 q mo mv s6 P (D ++ [(x, bv)]) := by
  have hlo : ∀ k, s5.ownBlock = some k → w.heap.size + 1 ≤ k := fun k hk => (h.own.lt k hk).1
  refine ⟨by rw [hi]; simp, by rw [List.length_append, h.len]; rfl, h3, by rw [← List.append_assoc]; exact ho, h.rv.grown hg fun k hk => by have := hlo k hk; omega, h.v.grown hg h.off9, h.ms.grownOff hg h.off, ?_, ?_, h.bel.trans (grown_below hg h.bel.size fun k hk => by have := hlo k hk; omega)⟩
  · rcases hr with hr | hr
    · rw [hr]; exact h.off
    · rw [hr]
      intro k hk b o n c e
      cases hk
      have := h.ms.lt hms e
      omega
  · rcases hr with hr | hr
    · rw [hr]; exact h.off9
    · rw [hr]
      intro k hk
      cases hk
      have := h.v.lt
      omega
theorem blocks_take {ms : List Mk} {i : Nat} {m : Mk} (h : ms[i]? = some m) : blocks (ms.take (i + 1)) = blocks (ms.take i) + (if hasBlock m.1 then 1 else 0) := by
  rw [List.take_add_one, h, blocks_append]
  simp only [Option.toList_some, blocks]
  cases hasBlock m.1 <;> simp
theorem drop_sec {L : List (List Int)} {t : Nat} {y : List Int} (h : L[t]? = some y) : L.drop t = y :: L.drop (t + 1) := by
  obtain ⟨hk, rfl⟩ := List.getElem?_eq_some_iff.1 h
  exact List.drop_eq_getElem_cons hk
theorem set_one {b c : Bk} (hb : b.Wf) (hc : c.Wf) (m : Mk) (v sv : Value) : (splice (It.cells ⟨m, b⟩ v) 2 (c.arr sv)).toList = It.cells ⟨m, c⟩ sv := by
  have := set_blk (A := []) (C := []) (m := m) (k := 0) (v := v) (sv := sv) rfl hb hc
  simpa [itCells] using this
set_option maxRecDepth 100000 in
set_option maxHeartbeats 2000000 in
theorem rread_any (n : Int) (hn : Seq32 n) (L : List (List Int)) (N : Nat) (hN : L.length = N) (hNN : N ≤ 1000) (sv : Value) (w : World) (h : SecsAt w sv L) : Calls Try.prog 15 #[.int .u32 n, sv] w fun e w' => RReadOut n (readP n L) e w' ∧ Below w.heap.size w w' := by
  obtain ⟨a, cap, rfl, hcap, hc⟩ := id h
  have HSC := Lib.hid (show ∀ y ∈ L, Sc y from h.sc)
  have HSEQ := Lib.hid hn
  have HC := Lib.hid hc
  have HN := Lib.hid hN
  have HSS := Lib.hid h
  rw [hN] at HSS ⊢
  have HG : Hid (rg n L (N + 1) [] 0 0 = readG n L) := Lib.hid (by unfold readG; rw [hN])
  clear h hc hN hcap hn
  go_enter Try.func15, Try.ntmps15
  go_upto_region 0 with fail
  refine wp_region_lit ?_
  refine alloc_g zero40 rfl ?_
  intro w0 hR hb hl
  try simp only [Act.put, List.setIfInBounds_toArray, List.set_cons_succ, List.set_cons_zero]
  have HT1 : Hid (GS w w0 n L 0 0 (N + 1) (.slice none 0 0) [] true) := Lib.hid ⟨HG.out, OwnI.nil _ _, hR, hb, by simp⟩
  clear hR hb hl
  refine wpList_nil ?_
  go_wp2_with fail
  have H0 : Hid ((n + ((0 : Nat) : Int)) % M32 = n) := Lib.hid (by have := HSEQ.out.1; have := HSEQ.out.2; rw [Int.emod_eq_of_lt] <;> simp_all)
  go_loopg [5, 6, 7, 8] (N + 1) (fun q u5 u6 u7 u8 wr => ∃ (t k f : Nat) (s5 : Value) (P : List (It × Value)) (mo : Bool), s5 = u5 ∧ u6 = .int .i64 t ∧ u7 = .int .u32 ((n + (k : Int)) % M32) ∧ u8 = .bool mo ∧ (mo = true → N + 1 - t ≤ q) ∧ t ≤ N ∧ N < t + f ∧ GS w wr n L t k f s5 P mo)
  case atStart => exact ⟨0, 0, N + 1, _, [], true, rfl, rfl, by rw [H0.out], rfl, by omega, by omega, by omega, HT1.out⟩
  case round =>
    obtain ⟨t, k, f, s5, P, mo, rfl, rfl, rfl, rfl, hq, ht, hf, hgs⟩ := hrel
    have HT := Lib.hid hgs
    clear hgs HT1 HG H0
    obtain ⟨q1, hq1⟩ : ∃ q, (n + (k : Int)) % M32 = q := ⟨_, rfl⟩
    rw [hq1]
    have HQE := Lib.hid hq1
    have HQ : Hid (Seq32 q1) := Lib.hid (by rw [← hq1]; exact seq_mod _)
    have HSN : Hid (IntKind.u32.wrap (q1 + 1) = (n + ((k + 1 : Nat) : Int)) % M32) := Lib.hid (by rw [IntKind.wrap_u32, ← hq1]; unfold M32; omega)
    clear hq1
    cases mo
    case true =>
      obtain ⟨f, rfl⟩ : ∃ g, f = g + 1 := ⟨f - 1, by omega⟩
      have hq2 := hq rfl
      have HGR := Lib.hid HT.out.rg
      simp only [if_true] at HGR
      have HRV := Lib.hid HT.out.rv
      have HBR := Lib.hid HT.out.bel
      clear hq
      by_cases hlt : t < N
      · have g1 : decide ((N : Int) ≤ (t : Int)) = false := decide_eq_false (by omega)
        have ht0 : (t : Int) < (N : Int) := by omega
        obtain ⟨y, hy⟩ : ∃ y, L[t]? = some y := ⟨_, List.getElem?_eq_getElem (by have := HN.out; omega)⟩
        obtain ⟨y1, yg, yo, rfl, y2⟩ := HC.out t y hy
        have HYK := Lib.hid hy
        have HY := Lib.hid (y2.below HT.out.bel (y2.lt (by rw [y1.size]; decide)))
        have HYG : Hid (yg < w.heap.size) := Lib.hid (y2.lt (by rw [y1.size]; decide))
        have HYS := Lib.hid y1.size
        have HDE := Lib.hid fun w => srdecode_fresh y y1 w
        clear y1 y2 hy HRV HBR
        go_upto_region 8 with fail
        refine wp_region_lit ?_
        refine takeL (.slice (some ⟨yg, yo, none⟩) N cap) rfl (by go_simp) ?_
        try simp only [Act.put, List.setIfInBounds_toArray, List.set_cons_succ, List.set_cons_zero]
        refine takeL (.int .i64 t) rfl (by go_simp) ?_
        try simp only [Act.put, List.setIfInBounds_toArray, List.set_cons_succ, List.set_cons_zero]
        refine takeL (.pointer (some ⟨yg, yo + t * 64, none⟩)) rfl (by go_simp) ?_
        try simp only [Act.put, List.setIfInBounds_toArray, List.set_cons_succ, List.set_cons_zero]
        refine load50 (cs := (u8s y).toArray) HY.out HYS.out rfl rfl ?_
        try simp only [Act.put, List.setIfInBounds_toArray, List.set_cons_succ, List.set_cons_zero]
        refine wpList_op rfl fun K hK => ?_
        go_simp
        refine (HDE.out _).mono ?_
        rintro e w2 ⟨mv, rfl, hm, hb, hfr⟩
        have HO2 := Lib.hid (HT.out.own.below hb)
        have HB2 := Lib.hid (stay HT.out.bel hb)
        have HV2 := Lib.hid (HT.out.rv.below hb HT.out.rv.lt)
        have HM := Lib.hid hm
        have HOF : Hid (MOff s5.ownBlock mv) := Lib.hid fun k hk b o n c e => by have := (HT.out.own.lt k hk).2; have := hfr b o n c e; omega
        have HFW := Lib.hid HT.out.few
        have HOK := Lib.hid fun k hk => (HO2.out.lt k hk).2
        clear hm hb hfr HT HY HDE
        refine hK _ _ ?_
        clear hK K
        try simp only [Act.put, List.setIfInBounds_toArray, List.set_cons_succ, List.set_cons_zero]
        refine alloc_g zero63 rfl ?_
        intro w3 hA hb hl
        try simp only [Act.put, List.setIfInBounds_toArray, List.set_cons_succ, List.set_cons_zero]
        refine store_all (cs := #[.int .u32 (decS y).seq, .bool (decS y).more, mv, .int .i64 (sdecE y)]) hA rfl info63 (rsm_one HM.out _ _ _) rfl rfl rfl ?_
        intro w4 hD hO hlD
        try simp only [Act.put, List.setIfInBounds_toArray, List.set_cons_succ, List.set_cons_zero]
        have hbb : Below w2.heap.size w2 w4 := hb.trans (hO.below hb.size fun k hk => Nat.le_of_eq hk.symm)
        have HO4 := Lib.hid (HO2.out.below hbb)
        have HB4 := Lib.hid (stay HB2.out hbb)
        have HRV := Lib.hid (HV2.out.below hbb HV2.out.lt)
        have HM4 := Lib.hid (HM.out.below hbb)
        have HV4 := Lib.hid hD
        have HOF9 : Hid (∀ k, s5.ownBlock = some k → k ≠ w2.heap.size) := Lib.hid fun k hk => Nat.ne_of_lt (HOK.out k hk)
        generalize w2.heap.size = b9 at *
        clear hA hb hl hD hO hlD hbb HO2 HB2 HM HV2 HOK
        have HBR := HB4
        refine wpList_nil ?_
        cases hs : isSum y
        · have HX : Hid (readP n L = none) := Lib.hid (readR_no HSC.out (by rw [← HGR.out]; exact rg_nosum HYK.out (by rw [hs]; simp)))
          rw [(decS_no hs).1, (decS_no hs).2] at HV4
          rw [(decS_no hs).1, (decS_no hs).2]
          have cv3 : w4.cell? ⟨b9, 3, none⟩ = some (.int .i64 11) := HV4.out.cell rfl
          clear hs
          go_upto_region 10 with fail
          refine wp_region_lit ?_
          refine takeL (.agg z40) rfl (exec_build _ _ _ _ 40 _ rfl #[] (by simp) _ (run_build _ 40 _ _ built40z)) ?_
          try simp only [Act.put, List.setIfInBounds_toArray, List.set_cons_succ, List.set_cons_zero]
          refine store_all (cs := z40) HRV.out rfl info40 z40_one rfl rfl rfl ?_
          intro wz hZ hOZ hlZ
          try simp only [Act.put, List.setIfInBounds_toArray, List.set_cons_succ, List.set_cons_zero]
          have HBZ := Lib.hid (HBR.out.trans (hOZ.below HBR.out.size fun k hk => Nat.le_of_eq hk.symm))
          have HZ := Lib.hid hZ
          clear hZ hOZ hlZ
          refine wpList_nil ?_
          go_wp2_with fail
          refine bodyPost_ret (v := .agg z40) (results_cell_at rfl _ _ w.heap.size 0 _ _ rfl Try.underlying40 rfl info40 (HZ.out.all rfl)) rfl ⟨.inl ⟨HX.out, rfl⟩, HBZ.out⟩
        have HSUM := Lib.hid hs
        have hgm := sum_good hs
        have HMG := Lib.hid hgm
        rw [(decS_yes hs).1] at HM4
        rw [(decS_yes hs).1, (decS_yes hs).2] at HV4
        rw [(decS_yes hs).1, (decS_yes hs).2]
        clear hs
        obtain ⟨sq, hsq⟩ : ∃ q, (sreadOf y).seq = q := ⟨_, rfl⟩
        obtain ⟨mo, hmo⟩ : ∃ m, (sreadOf y).more = m := ⟨_, rfl⟩
        obtain ⟨ms, hms⟩ : ∃ ms, (sreadOf y).marks = ms := ⟨_, rfl⟩
        have HSQ := Lib.hid hsq
        have HMO := Lib.hid hmo
        have HMSE := Lib.hid hms
        rw [hms] at HM4 HMG
        rw [hsq, hmo] at HV4 ⊢
        have cv3 : w4.cell? ⟨b9, 3, none⟩ = some (.int .i64 0) := HV4.out.cell rfl
        have cv0 : w4.cell? ⟨b9, 0, none⟩ = some (.int .u32 sq) := HV4.out.cell rfl
        clear hsq hmo hms hgm
        refine (Decidable.em (sq = q1)).symm.elim (fun hsn => ?_) (fun hsn => ?_)
        · have HX : Hid (readP n L = none) := Lib.hid (readR_no HSC.out (by rw [← HGR.out]; exact rg_nosum HYK.out (by rw [HSQ.out, HQE.out]; exact fun h => hsn h.2)))
          have hsb : (sq != q1) = true := by simpa using hsn
          go_upto_region 10 with fail
          refine wp_region_lit ?_
          refine takeL (.agg z40) rfl (exec_build _ _ _ _ 40 _ rfl #[] (by simp) _ (run_build _ 40 _ _ built40z)) ?_
          try simp only [Act.put, List.setIfInBounds_toArray, List.set_cons_succ, List.set_cons_zero]
          refine store_all (cs := z40) HRV.out rfl info40 z40_one rfl rfl rfl ?_
          intro wz hZ hOZ hlZ
          try simp only [Act.put, List.setIfInBounds_toArray, List.set_cons_succ, List.set_cons_zero]
          have HBZ := Lib.hid (HBR.out.trans (hOZ.below HBR.out.size fun k hk => Nat.le_of_eq hk.symm))
          have HZ := Lib.hid hZ
          clear hZ hOZ hlZ
          refine wpList_nil ?_
          go_wp2_with fail
          refine bodyPost_ret (v := .agg z40) (results_cell_at rfl _ _ w.heap.size 0 _ _ rfl Try.underlying40 rfl info40 (HZ.out.all rfl)) rfl ⟨.inl ⟨HX.out, rfl⟩, HBZ.out⟩
        have hsb : (sq != q1) = false := by simpa using hsn
        have HSQ1 := Lib.hid hsn
        clear hsn
        obtain ⟨mn, hmn⟩ : ∃ m, ms.length = m := ⟨_, rfl⟩
        have hml := good_len HMG.out
        rw [hmn] at hml
        obtain ⟨ma, mc, hmv⟩ : ∃ a c, mv = .slice a mn c := by
          obtain ⟨a, c, e, -⟩ := HM4.out
          exact ⟨a, c, by rw [e, hmn]⟩
        have HMN := Lib.hid hmn
        subst hmv
        have HI0 : Hid (GI w w4 L ms t 0 (t + 1) b9 sq mo (.slice ma mn mc) s5 P []) := Lib.hid ⟨by simp, rfl, by simp [blocks], by rw [List.append_nil]; exact HO4.out, HRV.out, HV4.out, HM4.out, HOF.out, HOF9.out, HB4.out⟩
        clear hmn HO4 HB4 HRV HM4 HOF9 HV4 HOF HBR
        go_wp2_with fail
        go_loopg [5, 6, 10] mn (fun q u5 u6 i wr => ∃ (j t2 : Nat) (s5 : Value) (D : List (It × Value)), s5 = u5 ∧ u6 = .int .i64 t2 ∧ i = .int .i64 j ∧ mn - j ≤ q ∧ j ≤ mn ∧ t2 ≤ N ∧ GI w wr L ms t j t2 b9 sq mo (.slice ma mn mc) s5 P D)
        case atStart => exact ⟨0, t + 1, _, [], rfl, by go_num, rfl, by omega, by omega, by omega, HI0.out⟩
        case round =>
          obtain ⟨j, t2, s5, D, rfl, rfl, rfl, hq3, hj, ht2, hgi⟩ := hrel
          have HI := Lib.hid hgi
          clear hgi HI0 cv3 cv0 hsb
          have cv2 : wr.cell? ⟨b9, 2, none⟩ = some (.slice ma mn mc) := HI.out.v.cell rfl
          by_cases hjm : j < mn
          · have gj : decide ((j : Int) < (mn : Int)) = true := decide_eq_true (by omega)
            have hj0 : (j : Int) < (mn : Int) := by omega
            obtain ⟨m, hm⟩ : ∃ m, ms[j]? = some m := ⟨_, List.getElem?_eq_getElem (by rw [HMN.out]; exact hjm)⟩
            have HMJ := Lib.hid hm
            have HOM := Lib.hid (good_ok HMG.out m (List.mem_of_getElem? hm))
            have HBT := Lib.hid (blocks_take hm)
            obtain ⟨mb, mo', mcap, hmv, hmc⟩ := HI.out.ms.has (by rw [HMN.out]; omega)
            obtain ⟨c0, c1⟩ := hmc j m hm
            have hma : ma = some ⟨mb, mo', none⟩ := by injection hmv
            subst hma
            obtain ⟨mk, mi⟩ := m
            simp only at c0 c1
            clear hm hmv hmc
            go_upto_region 15 with fail
            refine wp_region_lit ?_
            refine takeL (.pointer (some ⟨b9, 2, none⟩)) rfl (by go_simp) ?_
            try simp only [Act.put, List.setIfInBounds_toArray, List.set_cons_succ, List.set_cons_zero]
            refine takeL (.slice (some ⟨mb, mo', none⟩) mn mc) rfl (by go_simp) ?_
            try simp only [Act.put, List.setIfInBounds_toArray, List.set_cons_succ, List.set_cons_zero]
            refine takeL (.int .i64 j) rfl (by go_simp) ?_
            try simp only [Act.put, List.setIfInBounds_toArray, List.set_cons_succ, List.set_cons_zero]
            refine takeL (.pointer (some ⟨mb, mo' + j * 2, none⟩)) rfl (by go_simp) ?_
            try simp only [Act.put, List.setIfInBounds_toArray, List.set_cons_succ, List.set_cons_zero]
            refine takeL (.agg #[.int .i64 mk, .int .i64 mi]) rfl (by go_simp) ?_
            try simp only [Act.put, List.setIfInBounds_toArray, List.set_cons_succ, List.set_cons_zero]
            clear c0 c1 cv2
            refine takeL (.agg (It.arr ⟨(mk, mi), Bk.none⟩ (.slice none 0 0))) rfl (exec_build _ _ _ _ 72 _ rfl #[(0, .agg #[.int .i64 mk, .int .i64 mi])] (by simp only [List.map_toArray, List.map_cons, List.map_nil]; rfl) _ (run_build _ 72 _ _ (built72rr _ _))) ?_
            try simp only [Act.put, List.setIfInBounds_toArray, List.set_cons_succ, List.set_cons_zero]
            have HXW : Hid (It.Wf ⟨(mk, mi), Bk.none⟩) := Lib.hid ⟨by have := okMark_iff.1 HOM.out; simp only at this; constructor <;> simp only <;> omega, by have := okMark_iff.1 HOM.out; simp only at this; constructor <;> simp only <;> omega, none_wf⟩
            refine alloc_g zero72b rfl ?_
            intro w5 hA hb hl
            try simp only [Act.put, List.setIfInBounds_toArray, List.set_cons_succ, List.set_cons_zero]
            refine store_all (cs := It.arr ⟨(mk, mi), Bk.none⟩ (.slice none 0 0)) hA (same72 It.none_wf HXW.out _ _) (info72s HXW.out _) (It.arr_one rfl) rfl rfl rfl ?_
            intro w6 hD hO hlD
            try simp only [Act.put, List.setIfInBounds_toArray, List.set_cons_succ, List.set_cons_zero]
            have hbb : Below wr.heap.size wr w6 := hb.trans (hO.below hb.size fun k hk => Nat.le_of_eq hk.symm)
            have HX6 := Lib.hid hD
            have HXO : Hid (∀ k, s5.ownBlock = some k → k < wr.heap.size) := Lib.hid fun k hk => (HI.out.own.lt k hk).2
            have HXR : Hid (w.heap.size < wr.heap.size) := Lib.hid HI.out.rv.lt
            have HW6 := Lib.hid hbb
            obtain ⟨bx, hbx⟩ : ∃ b, wr.heap.size = b := ⟨_, rfl⟩
            have HBX := Lib.hid hbx
            have HI6 := Lib.hid (HI.out.below HW6.out)
            rw [hbx] at HX6 HXO HXR HW6 ⊢
            clear hA hb hl hD hO hlD hbb hbx
            refine wpList_nil ?_
            have x0 : w6.cell? ⟨bx, 0, none⟩ = some (.int .i64 mk) := HX6.out.cell rfl
            have HKH : Hid (hasBlock mk = decide (mk ≤ 3)) := Lib.hid (by
              have := okMark_iff.1 HOM.out
              simp only at this
              unfold hasBlock
              rw [Bool.eq_iff_iff]
              simp
              omega)
            have HPD : Hid ((P ++ D).length ≤ 50000) := Lib.hid (by rw [List.length_append, HI6.out.len]; have := HFW.out; omega)
            cases hh : hasBlock mk
            · have g3 : decide (mk ≤ 3) = false := by rw [← HKH.out]; exact hh
              have HST := Lib.hid (its_no (D := D.map (·.1)) (R := L.drop t2) HMJ.out hh)
              simp only [hh] at HBT
              clear hh
              go_upto_region 24 with fail
              refine wp_region_lit ?_
              clear x0
              refine takeL (s5) rfl (by go_simp) ?_
              try simp only [Act.put, List.setIfInBounds_toArray, List.set_cons_succ, List.set_cons_zero]
              refine load72 (cs := It.arr ⟨(mk, mi), Bk.none⟩ (.slice none 0 0)) (HX6.out.all rfl) (It.arr_size HXW.out _) rfl rfl ?_
              try simp only [Act.put, List.setIfInBounds_toArray, List.set_cons_succ, List.set_cons_zero]
              refine lit_LI HXW.out (BytesAt.nil _ _ _) rfl rfl ?_
              intro w7 hi7 hb7
              try simp only [Act.put, List.setIfInBounds_toArray, List.set_cons_succ, List.set_cons_zero]
              have HI7 := Lib.hid (HI6.out.below hb7)
              have HL7 := Lib.hid hi7
              clear hi7 hb7 HI6 HX6
              refine app_LIw HI7.out.own (by have := HI7.out.rv.lt; omega) HL7.out (fun z hz => by obtain rfl := List.mem_singleton.1 hz; exact fun h => absurd h (by simp [Bk.none])) (by have := HPD.out; simp only [List.length_cons, List.length_nil]; omega) rfl rfl rfl ?_
              intro s6 w8 ho8 hg8 hr8
              try simp only [Act.put, List.setIfInBounds_toArray, List.set_cons_succ, List.set_cons_zero]
              have HI8 : Hid (GI w w8 L ms t (j + 1) t2 b9 sq mo (.slice (some ⟨mb, mo', none⟩) mn mc) s6 P (D ++ [(⟨(mk, mi), Bk.none⟩, .slice none 0 0)])) := Lib.hid (HI7.out.step (by rw [HI7.out.its]; exact HST.out) (by rw [HBT.out, HI7.out.at2]; simp) (by rw [HMN.out]; omega) ho8 hg8 hr8)
              clear ho8 hg8 hr8 HI7 HL7 HST HBT
              refine takeL (s6) rfl (by go_simp) ?_
              try simp only [Act.put, List.setIfInBounds_toArray, List.set_cons_succ, List.set_cons_zero]
              refine wpList_nil ?_
              go_wp2_with fail
              go_roundg (mn - (j + 1))
              case measure => omega
              case rel => exact ⟨j + 1, t2, s6, _, rfl, rfl, by go_num, by omega, by omega, ht2, HI8.out⟩
            · have g3 : decide (mk ≤ 3) = true := by rw [← HKH.out]; exact hh
              have HHB := Lib.hid hh
              simp only [hh, if_true] at HBT
              clear hh
              refine (Decidable.em (t2 < N)).symm.elim (fun ht3 => ?_) (fun ht3 => ?_)
              · have g4 : decide ((N : Int) ≤ (t2 : Int)) = true := decide_eq_true (by omega)
                have HX : Hid (readP n L = none) := Lib.hid (readR_no HSC.out (by
                  rw [← HGR.out]
                  refine rg_none HYK.out ?_
                  have e : L.drop t2 = [] := List.drop_of_length_le (by rw [HN.out]; omega)
                  rw [HMSE.out, HI6.out.its, e]
                  exact its_end HMJ.out HHB.out))
                have HRV := Lib.hid HI6.out.rv
                have HBR := Lib.hid HI6.out.bel
                go_upto_region 18 with fail
                refine wp_region_lit ?_
                refine takeL (.agg z40) rfl (exec_build _ _ _ _ 40 _ rfl #[] (by simp) _ (run_build _ 40 _ _ built40z)) ?_
                try simp only [Act.put, List.setIfInBounds_toArray, List.set_cons_succ, List.set_cons_zero]
                refine store_all (cs := z40) HRV.out rfl info40 z40_one rfl rfl rfl ?_
                intro wz hZ hOZ hlZ
                try simp only [Act.put, List.setIfInBounds_toArray, List.set_cons_succ, List.set_cons_zero]
                have HBZ := Lib.hid (HBR.out.trans (hOZ.below HBR.out.size fun k hk => Nat.le_of_eq hk.symm))
                have HZ := Lib.hid hZ
                clear hZ hOZ hlZ
                refine wpList_nil ?_
                go_wp2_with fail
                refine bodyPost_ret (v := .agg z40) (results_cell_at rfl _ _ w.heap.size 0 _ _ rfl Try.underlying40 rfl info40 (HZ.out.all rfl)) rfl ⟨.inl ⟨HX.out, rfl⟩, HBZ.out⟩
              have g4 : decide ((N : Int) ≤ (t2 : Int)) = false := decide_eq_false (by omega)
              have ht20 : (t2 : Int) < (N : Int) := by omega
              obtain ⟨y2, hy2⟩ : ∃ y, L[t2]? = some y := ⟨_, List.getElem?_eq_getElem (by have := HN.out; omega)⟩
              obtain ⟨z1, zg, zo, zr, z2⟩ := HC.out t2 y2 hy2
              cases zr
              have HZK := Lib.hid (drop_sec hy2)
              have HZ := Lib.hid (z2.below HI6.out.bel HYG.out)
              have HZS := Lib.hid z1.size
              have HDW := Lib.hid (show (decB y2).Wf from by unfold decB; split; exact readOf_wf z1; exact none_wf)
              have HDE := Lib.hid fun w => rdecode_any y2 z1 w
              clear z1 z2 hy2
              go_upto_region 19 with fail
              refine wp_region_lit ?_
              refine takeL (.slice (some ⟨yg, yo, none⟩) N cap) rfl (by go_simp) ?_
              try simp only [Act.put, List.setIfInBounds_toArray, List.set_cons_succ, List.set_cons_zero]
              refine takeL (.int .i64 t2) rfl (by go_simp) ?_
              try simp only [Act.put, List.setIfInBounds_toArray, List.set_cons_succ, List.set_cons_zero]
              refine takeL (.pointer (some ⟨yg, yo + t2 * 64, none⟩)) rfl (by go_simp) ?_
              try simp only [Act.put, List.setIfInBounds_toArray, List.set_cons_succ, List.set_cons_zero]
              refine load50 (cs := (u8s y2).toArray) HZ.out HZS.out rfl rfl ?_
              try simp only [Act.put, List.setIfInBounds_toArray, List.set_cons_succ, List.set_cons_zero]
              clear x0
              refine wpList_op rfl fun K hK => ?_
              go_simp
              refine (HDE.out _).mono ?_
              rintro e w7 ⟨bv, rfl, hby, hb, hfr⟩
              have HI7 := Lib.hid (HI6.out.below hb)
              have HW7 : Hid (Below bx wr w7) := Lib.hid (HW6.out.trans (hb.mono (Nat.le_of_lt HX6.out.lt)))
              have HX7 := Lib.hid (HX6.out.below hb HX6.out.lt)
              have HBY := Lib.hid hby
              have HLB := Lib.hid hby.len
              have HLX : Hid (bx < w6.heap.size) := Lib.hid HX6.out.lt
              have HFR := Lib.hid hfr
              clear hby hb hfr HI6 HX6 HZ HDE
              refine hK _ _ ?_
              clear hK K
              try simp only [Act.put, List.setIfInBounds_toArray, List.set_cons_succ, List.set_cons_zero]
              refine alloc_g zero59b rfl ?_
              intro w8 hA hb hl
              try simp only [Act.put, List.setIfInBounds_toArray, List.set_cons_succ, List.set_cons_zero]
              refine store_all (cs := gotA (decB y2) bv (decN y2) (decE y2)) hA (by rw [gotA_size HDW.out]; exact gotA_size none_wf _ _ _) (by rw [gotA_size HDW.out]; exact info59) (gotA_one _ HBY.out _ _) rfl rfl rfl ?_
              intro w9 hD hO hlD
              try simp only [Act.put, List.setIfInBounds_toArray, List.set_cons_succ, List.set_cons_zero]
              have hbb : Below w7.heap.size w7 w9 := hb.trans (hO.below hb.size fun k hk => Nat.le_of_eq hk.symm)
              have HI9 := Lib.hid (HI7.out.below hbb)
              have HW9 : Hid (Below bx wr w9) := Lib.hid (HW7.out.trans (hbb.mono (Nat.le_of_lt HX7.out.lt)))
              have HX9 := Lib.hid (HX7.out.below hbb HX7.out.lt)
              have HB9 := Lib.hid (HBY.out.below hbb)
              have HV9 := Lib.hid hD
              have HNE : Hid (w7.heap.size ≠ bx) := Lib.hid (by have := HX7.out.lt; omega)
              generalize w7.heap.size = bg at *
              clear hA hb hl hD hO hlD hbb HI7 HX7 HBY
              refine wpList_nil ?_
              have ce : w9.cell? ⟨bg, 46, none⟩ = some (.int .i64 (decE y2)) := HV9.out.cell (by
                have hl := Bk.cells_length HDW.out bv
                simp only [gotA]
                rw [List.getElem?_append_right (by omega), hl]
                rfl)
              cases hyb : isBlock y2
              · have HX : Hid (readP n L = none) := Lib.hid (readR_no HSC.out (by
                  rw [← HGR.out]
                  refine rg_none HYK.out ?_
                  rw [HMSE.out, HI9.out.its, HZK.out]
                  exact its_bad HMJ.out HHB.out hyb))
                obtain ⟨p1, p2, p3⟩ := dec_no' hyb
                rw [p3] at ce
                have HRV := Lib.hid HI9.out.rv
                have HBR := Lib.hid HI9.out.bel
                clear hyb p1 p2 p3
                go_upto_region 21 with fail
                refine wp_region_lit ?_
                refine takeL (.agg z40) rfl (exec_build _ _ _ _ 40 _ rfl #[] (by simp) _ (run_build _ 40 _ _ built40z)) ?_
                try simp only [Act.put, List.setIfInBounds_toArray, List.set_cons_succ, List.set_cons_zero]
                refine store_all (cs := z40) HRV.out rfl info40 z40_one rfl rfl rfl ?_
                intro wz hZ hOZ hlZ
                try simp only [Act.put, List.setIfInBounds_toArray, List.set_cons_succ, List.set_cons_zero]
                have HBZ := Lib.hid (HBR.out.trans (hOZ.below HBR.out.size fun k hk => Nat.le_of_eq hk.symm))
                have HZ := Lib.hid hZ
                clear hZ hOZ hlZ
                refine wpList_nil ?_
                go_wp2_with fail
                refine bodyPost_ret (v := .agg z40) (results_cell_at rfl _ _ w.heap.size 0 _ _ rfl Try.underlying40 rfl info40 (HZ.out.all rfl)) rfl ⟨.inl ⟨HX.out, rfl⟩, HBZ.out⟩
              obtain ⟨p1, p2, p3⟩ := dec_yes' hyb
              have HST := Lib.hid (its_yes (D := D.map (·.1)) (R := L.drop (t2 + 1)) HMJ.out HHB.out hyb)
              rw [p3] at ce
              rw [p1] at HB9 HDW
              rw [p1, p3] at HV9
              rw [p1, p3]
              clear hyb p1 p2 p3
              obtain ⟨bk, hbk⟩ : ∃ b, readOf y2 = b := ⟨_, rfl⟩
              rw [hbk] at HB9 HDW HV9 HST
              rw [hbk]
              clear hbk
              obtain ⟨dn, hdn⟩ : ∃ d, decN y2 = d := ⟨_, rfl⟩
              rw [hdn] at HV9
              rw [hdn]
              clear hdn
              have HG57 : Hid (At w9 bg 0 (bk.arr bv)) := Lib.hid (fun i hi => HV9.out.cell (by
                have hl := Bk.cells_length HDW.out bv
                have hi2 : i < 45 := by rw [Bk.arr_size HDW.out] at hi; exact hi
                simp only [gotA, Bk.arr, Nat.zero_add, List.getElem_toArray]
                rw [List.getElem?_append_left (by omega), List.getElem?_eq_getElem]))
              go_upto_region 22 with fail
              refine wp_region_lit ?_
              clear ce
              refine takeL (.pointer (some ⟨bg, 0, none⟩)) rfl (by go_simp) ?_
              try simp only [Act.put, List.setIfInBounds_toArray, List.set_cons_succ, List.set_cons_zero]
              refine load57 HG57.out (Bk.arr_size HDW.out bv) rfl rfl ?_
              try simp only [Act.put, List.setIfInBounds_toArray, List.set_cons_succ, List.set_cons_zero]
              refine takeL (.pointer (some ⟨bx, 2, none⟩)) rfl (by go_simp) ?_
              try simp only [Act.put, List.setIfInBounds_toArray, List.set_cons_succ, List.set_cons_zero]
              have HFIT : Hid (2 + (bk.arr bv).size ≤ (It.arr ⟨(mk, mi), Bk.none⟩ (.slice none 0 0)).toList.length) := Lib.hid (by
                have := It.arr_size HXW.out (.slice none 0 0)
                rw [Bk.arr_size HDW.out, Array.length_toList, this]
                exact Nat.le_refl _)
              refine store_g (cs := bk.arr bv) HX9.out (info57s HDW.out _) HFIT.out (Bk.arr_one (slice_one HLB.out)) rfl rfl rfl ?_
              intro w10 hD hO hlD
              rw [show (It.arr ⟨(mk, mi), Bk.none⟩ (.slice none 0 0)).toList = It.cells ⟨(mk, mi), Bk.none⟩ (.slice none 0 0) from rfl, set_one none_wf HDW.out] at hD
              try simp only [Act.put, List.setIfInBounds_toArray, List.set_cons_succ, List.set_cons_zero]
              have HXW2 : Hid (It.Wf ⟨(mk, mi), bk⟩) := Lib.hid ⟨HXW.out.k, HXW.out.i, HDW.out⟩
              have HW10 : Hid (Below bx wr w10) := Lib.hid (HW9.out.trans (hO.below (by have := HW9.out.size; have := HX9.out.lt; omega) fun k hk => Nat.le_of_eq hk.symm))
              have HI10 := Lib.hid (HI.out.below (by rw [HBX.out]; exact HW10.out))
              have HFX : Hid (Fresh (bx + 1) bv) := Lib.hid fun b o n c e => by have := HFR.out b o n c e; have := HLX.out; omega
              have HB10 := Lib.hid (bytes_only HB9.out hO HFX.out)
              have HX10 := Lib.hid hD
              clear hD hO hlD HI9 HX9 HB9 HV9 HW9 HG57 HFIT HNE HI HW6 HW7
              refine wpList_nil ?_
              go_upto_region 24 with fail
              refine wp_region_lit ?_
              refine takeL (s5) rfl (by go_simp) ?_
              try simp only [Act.put, List.setIfInBounds_toArray, List.set_cons_succ, List.set_cons_zero]
              refine load72 (cs := It.arr ⟨(mk, mi), bk⟩ bv) (HX10.out.all rfl) (It.arr_size HXW2.out _) rfl rfl ?_
              try simp only [Act.put, List.setIfInBounds_toArray, List.set_cons_succ, List.set_cons_zero]
              refine lit_LI HXW2.out HB10.out rfl rfl ?_
              intro w11 hi11 hb11
              try simp only [Act.put, List.setIfInBounds_toArray, List.set_cons_succ, List.set_cons_zero]
              have HI11 := Lib.hid (HI10.out.below hb11)
              have HL11 := Lib.hid hi11
              clear hi11 hb11 HI10 HX10 HB10
              refine app_LIw HI11.out.own (by have := HI11.out.rv.lt; omega) HL11.out (fun z hz => by obtain rfl := List.mem_singleton.1 hz; exact Off.fresh HFX.out fun k hk => Nat.lt_succ_of_lt (HXO.out k hk)) (by have := HPD.out; simp only [List.length_cons, List.length_nil]; omega) rfl rfl rfl ?_
              intro s6 w12 ho12 hg12 hr12
              try simp only [Act.put, List.setIfInBounds_toArray, List.set_cons_succ, List.set_cons_zero]
              have HI12 : Hid (GI w w12 L ms t (j + 1) (t2 + 1) b9 sq mo (.slice (some ⟨mb, mo', none⟩) mn mc) s6 P (D ++ [(⟨(mk, mi), bk⟩, bv)])) := Lib.hid (HI11.out.step (by rw [HI11.out.its, HZK.out]; exact HST.out) (by rw [HBT.out, HI11.out.at2]; omega) (by rw [HMN.out]; omega) ho12 hg12 hr12)
              clear ho12 hg12 hr12 HI11 HL11 HST HBT
              refine takeL (s6) rfl (by go_simp) ?_
              try simp only [Act.put, List.setIfInBounds_toArray, List.set_cons_succ, List.set_cons_zero]
              refine wpList_nil ?_
              have ht4 : Hid (t2 + 1 ≤ N) := Lib.hid ht3
              go_wp2_with fail
              go_roundg (mn - (j + 1))
              case measure => omega
              case rel => exact ⟨j + 1, t2 + 1, s6, _, rfl, by go_num, by go_num, by omega, by omega, ht4.out, HI12.out⟩
          · obtain rfl : j = mn := by omega
            have gj : decide ((j : Int) < (j : Int)) = false := decide_eq_false (by omega)
            have HITS : Hid (itemsP ms (L.drop (t + 1)) = some (D.map (·.1))) := Lib.hid (by
              rw [HI.out.its, List.drop_of_length_le (by rw [HMN.out]; exact Nat.le_refl _)]
              simp [itemsP])
            have HT2 : Hid (t2 = t + (1 + blocks ms)) := Lib.hid (by
              rw [HI.out.at2, List.take_of_length_le (by rw [HMN.out]; exact Nat.le_refl _)]
              omega)
            have HSOME := Lib.hid (rg_some (f := f) (P := P.map (·.1)) HYK.out HSUM.out (by rw [HSQ.out, HSQ1.out, HQE.out]) (by rw [HMSE.out]; exact HITS.out))
            rw [HMO.out, HMSE.out, ← HT2.out, HGR.out, ← List.map_append] at HSOME
            have HGS : Hid (GS w wr n L t2 (k + 1) f s5 (P ++ D) mo) := Lib.hid ⟨by have h := HSOME.out; cases mo <;> simp at h ⊢ <;> first | exact h | exact h.symm, HI.out.own, HI.out.rv, HI.out.bel, by rw [List.length_append, HI.out.len]; have := HFW.out; have := HT2.out; omega⟩
            have cv1 : wr.cell? ⟨b9, 1, none⟩ = some (.bool mo) := HI.out.v.cell rfl
            have HSN1 := HSN.out
            have ht21 : Hid (t + 1 ≤ t2) := Lib.hid (by have := HT2.out; omega)
            clear hjm
            go_wp2_with fail
            all_goals
              go_roundg (N - t)
              case measure => omega
              case rel => exact ⟨t2, k + 1, f, s5, P ++ D, mo, rfl, rfl, by first | (rw [← HSN.out]; rfl) | rfl, rfl, by have := ht21.out; omega, ht2, by have := ht21.out; omega, HGS.out⟩
      · obtain rfl : t = N := by omega
        have HX : Hid (readP n L = none) := Lib.hid (readR_no HSC.out (by rw [← HGR.out]; exact rg_end (by rw [HN.out]; exact Nat.le_refl _)))
        have g1 : decide ((t : Int) ≤ (t : Int)) = true := decide_eq_true (by omega)
        go_upto_region 7 with fail
        refine wp_region_lit ?_
        refine takeL (.agg z40) rfl (exec_build _ _ _ _ 40 _ rfl #[] (by simp) _ (run_build _ 40 _ _ built40z)) ?_
        try simp only [Act.put, List.setIfInBounds_toArray, List.set_cons_succ, List.set_cons_zero]
        refine store_all (cs := z40) HRV.out rfl info40 z40_one rfl rfl rfl ?_
        intro wz hZ hOZ hlZ
        try simp only [Act.put, List.setIfInBounds_toArray, List.set_cons_succ, List.set_cons_zero]
        have HBZ := Lib.hid (HBR.out.trans (hOZ.below HBR.out.size fun k hk => Nat.le_of_eq hk.symm))
        have HZ := Lib.hid hZ
        clear hZ hOZ hlZ
        refine wpList_nil ?_
        go_wp2_with fail
        refine bodyPost_ret (v := .agg z40) (results_cell_at rfl _ _ w.heap.size 0 _ _ rfl Try.underlying40 rfl info40 (HZ.out.all rfl)) rfl ⟨.inl ⟨HX.out, rfl⟩, HBZ.out⟩
    case false =>
      have HGR := Lib.hid HT.out.rg
      simp only [Bool.false_eq_true, if_false] at HGR
      have HIT := Lib.hid HT.out.own.items
      have HRV0 := Lib.hid HT.out.rv
      have HBR0 := Lib.hid HT.out.bel
      have HW0 : Hid (w.heap.size < wr.heap.size) := Lib.hid HT.out.rv.lt
      have HPL : Hid (P.length ≤ 24000) := Lib.hid (by have := HT.out.few; omega)
      have HLBB : Hid (GoodC s5 P (P.map (·.1))) := Lib.hid (fun w h => rgoodG_any P P.length rfl s5 (by have := HPL.out; omega) w h)
      clear hq HT HSN HQ HQE
      cases hm : mayBe (P.map (·.1))
      · have HX : Hid (readP n L = none) := Lib.hid (readR_bad HSC.out HGR.out hm)
        have HLA := Lib.hid fun w h => rlay_no P _ rfl hm n s5 (by have := HPL.out; omega) w h
        clear hm
        go_upto_region 26 with fail
        refine wp_region_lit ?_
        refine takeL (.int .u32 n) rfl (by go_simp) ?_
        try simp only [Act.put, List.setIfInBounds_toArray, List.set_cons_succ, List.set_cons_zero]
        refine takeL (s5) rfl (by go_simp) ?_
        try simp only [Act.put, List.setIfInBounds_toArray, List.set_cons_succ, List.set_cons_zero]
        refine wpList_op rfl fun K hK => ?_
        go_simp
        refine (HLA.out _ HIT.out).mono ?_
        rintro e w2 ⟨rfl, hb⟩
        have HRV2 := Lib.hid (HRV0.out.below hb HRV0.out.lt)
        have HBR2 := Lib.hid (stay HBR0.out hb)
        clear hb HRV0 HBR0
        refine hK _ _ ?_
        clear hK K
        try simp only [Act.put, List.setIfInBounds_toArray, List.set_cons_succ, List.set_cons_zero]
        refine alloc_g zero33 rfl ?_
        intro w3 hA hb hl
        try simp only [Act.put, List.setIfInBounds_toArray, List.set_cons_succ, List.set_cons_zero]
        refine store_all (cs := #[.slice none 0 0, .slice none 0 0, .bool false]) hA rfl info33 (by simp [Value.oneCell']) rfl rfl rfl ?_
        intro w4 hD hO hlD
        try simp only [Act.put, List.setIfInBounds_toArray, List.set_cons_succ, List.set_cons_zero]
        have hbb : Below w2.heap.size w2 w4 := hb.trans (hO.below hb.size fun k hk => Nat.le_of_eq hk.symm)
        have HRV := Lib.hid (HRV2.out.below hbb HRV2.out.lt)
        have HBR := Lib.hid (stay HBR2.out hbb)
        have c2 := hD.cell (i := 2) rfl
        clear hA hb hl hD hO hlD hbb HRV2 HBR2
        refine wpList_nil ?_
        go_upto_region 28 with fail
        refine wp_region_lit ?_
        refine takeL (.agg z40) rfl (exec_build _ _ _ _ 40 _ rfl #[] (by simp) _ (run_build _ 40 _ _ built40z)) ?_
        try simp only [Act.put, List.setIfInBounds_toArray, List.set_cons_succ, List.set_cons_zero]
        refine store_all (cs := z40) HRV.out rfl info40 z40_one rfl rfl rfl ?_
        intro wz hZ hOZ hlZ
        try simp only [Act.put, List.setIfInBounds_toArray, List.set_cons_succ, List.set_cons_zero]
        have HBZ := Lib.hid (HBR.out.trans (hOZ.below HBR.out.size fun k hk => Nat.le_of_eq hk.symm))
        have HZ := Lib.hid hZ
        clear hZ hOZ hlZ
        refine wpList_nil ?_
        go_wp2_with fail
        refine bodyPost_ret (v := .agg z40) (results_cell_at rfl _ _ w.heap.size 0 _ _ rfl Try.underlying40 rfl info40 (HZ.out.all rfl)) rfl ⟨.inl ⟨HX.out, rfl⟩, HBZ.out⟩
      have HMB := Lib.hid hm
      have HLA := Lib.hid fun w h => rlay_yes P _ rfl hm n HSEQ.out s5 w h
      have HSCL := Lib.hid (lay2_sc (l := P.map (·.1)) HIT.out.wf n)
      clear hm
      obtain ⟨PL, hPL⟩ : ∃ l, P.map (·.1) = l := ⟨_, rfl⟩
      have HPLE := Lib.hid hPL
      rw [hPL] at HGR HMB HLA HSCL HLBB
      clear hPL
      go_upto_region 26 with fail
      refine wp_region_lit ?_
      refine takeL (.int .u32 n) rfl (by go_simp) ?_
      try simp only [Act.put, List.setIfInBounds_toArray, List.set_cons_succ, List.set_cons_zero]
      refine takeL (s5) rfl (by go_simp) ?_
      try simp only [Act.put, List.setIfInBounds_toArray, List.set_cons_succ, List.set_cons_zero]
      refine wpList_op rfl fun K hK => ?_
      go_simp
      refine (HLA.out _ HIT.out).mono ?_
      rintro e w2 ⟨s7, s8, rfl, htw⟩
      have HTW := Lib.hid htw
      have HRV2 := Lib.hid (HRV0.out.below htw.b HRV0.out.lt)
      have HBR2 := Lib.hid (stay HBR0.out htw.b)
      have HIT2 := Lib.hid (HIT.out.below htw.b)
      clear htw HRV0 HBR0 HIT HLA
      obtain ⟨a7, c7, hv7, hc7⟩ := HTW.out.s.len
      obtain ⟨a8, c8, hv8⟩ := HTW.out.a.ints.form
      obtain ⟨m7, hm7⟩ : ∃ m, (lay2 n PL).1.length = m := ⟨_, rfl⟩
      obtain ⟨m8, hm8⟩ : ∃ m, (lay2 n PL).2.length = m := ⟨_, rfl⟩
      rw [hm7] at hv7
      rw [hm8] at hv8
      have HM7 := Lib.hid hm7
      subst hv7
      subst hv8
      clear hm7 hm8 hc7
      refine hK _ _ ?_
      clear hK K
      try simp only [Act.put, List.setIfInBounds_toArray, List.set_cons_succ, List.set_cons_zero]
      refine alloc_g zero33 rfl ?_
      intro w3 hA hb hl
      try simp only [Act.put, List.setIfInBounds_toArray, List.set_cons_succ, List.set_cons_zero]
      refine store_all (cs := #[.slice a7 m7 c7, .slice a8 m8 c8, .bool true]) hA rfl info33 (by simp [Value.oneCell']) rfl rfl rfl ?_
      intro w4 hD hO hlD
      try simp only [Act.put, List.setIfInBounds_toArray, List.set_cons_succ, List.set_cons_zero]
      have hbb : Below w2.heap.size w2 w4 := hb.trans (hO.below hb.size fun k hk => Nat.le_of_eq hk.symm)
      have HRV := Lib.hid (HRV2.out.below hbb HRV2.out.lt)
      have HBR := Lib.hid (stay HBR2.out hbb)
      have HIT4 := Lib.hid (HIT2.out.below hbb)
      have HS4 := Lib.hid (HTW.out.s.below hbb).secs
      have HA4 := Lib.hid (HTW.out.a.below hbb).ints
      have HV4 := Lib.hid hD
      have HA8N : Hid (∀ b o n c, Value.slice a8 m8 c8 = .slice (some ⟨b, o, none⟩) n c → b ≠ w.heap.size) := Lib.hid fun b o n c e => by have := (HTW.out.a.lt b (by rw [e]; rfl)).1; have := HW0.out; omega
      have HB3N : Hid (w2.heap.size ≠ w.heap.size) := Lib.hid (by have := HRV2.out.lt; omega)
      generalize w2.heap.size = b3 at *
      clear hA hb hl hD hO hlD hbb HRV2 HBR2 HIT2 HTW
      have c0 := HV4.out.cell (i := 0) rfl
      have c2 := HV4.out.cell (i := 2) rfl
      refine wpList_nil ?_
      refine (Decidable.em (m7 = t)).symm.elim (fun h7 => ?_) (fun h7 => ?_)
      · have HX : Hid (readP n L = none) := Lib.hid (readR_off HSC.out HGR.out (fun e => h7 (by rw [← HM7.out, e, List.length_take, HN.out]; omega)))
        have h7b : ((m7 : Int) != (t : Int)) = true := by simpa using fun h => h7 (by omega)
        go_upto_region 28 with fail
        refine wp_region_lit ?_
        refine takeL (.agg z40) rfl (exec_build _ _ _ _ 40 _ rfl #[] (by simp) _ (run_build _ 40 _ _ built40z)) ?_
        try simp only [Act.put, List.setIfInBounds_toArray, List.set_cons_succ, List.set_cons_zero]
        refine store_all (cs := z40) HRV.out rfl info40 z40_one rfl rfl rfl ?_
        intro wz hZ hOZ hlZ
        try simp only [Act.put, List.setIfInBounds_toArray, List.set_cons_succ, List.set_cons_zero]
        have HBZ := Lib.hid (HBR.out.trans (hOZ.below HBR.out.size fun k hk => Nat.le_of_eq hk.symm))
        have HZ := Lib.hid hZ
        clear hZ hOZ hlZ
        refine wpList_nil ?_
        go_wp2_with fail
        refine bodyPost_ret (v := .agg z40) (results_cell_at rfl _ _ w.heap.size 0 _ _ rfl Try.underlying40 rfl info40 (HZ.out.all rfl)) rfl ⟨.inl ⟨HX.out, rfl⟩, HBZ.out⟩
      have h7b : ((m7 : Int) != (t : Int)) = false := by simp [h7]
      have HE7 := Lib.hid h7
      go_wp2_with fail
      clear h7 h7b c0 c2
      go_loopg [14] t (fun q i wr => ∃ j : Nat, t - j ≤ q ∧ j ≤ t ∧ i = .int .i64 j ∧ (∀ z, z < j → (lay2 n PL).1[z]? = L[z]?) ∧ Below w4.heap.size w4 wr)
      case atStart => exact ⟨0, by omega, by omega, rfl, fun z hz => by omega, Below.refl _ _⟩
      case round =>
        obtain ⟨j, hq2, hj, rfl, hall, hb⟩ := hrel
        have HAL := Lib.hid hall
        have HB := Lib.hid hb
        clear hall hb
        by_cases hjt : j < t
        · have gj : decide ((j : Int) < (t : Int)) = true := decide_eq_true (by omega)
          obtain ⟨g7, o7, cc7, e7, -, hg7, hc7⟩ := HS4.out.has (by rw [HM7.out, HE7.out]; omega)
          have ea7 : a7 = some ⟨g7, o7, none⟩ := by injection e7
          subst ea7
          obtain ⟨y7, hy7⟩ : ∃ y, (lay2 n PL).1[j]? = some y := ⟨_, List.getElem?_eq_getElem (by rw [HM7.out, HE7.out]; exact hjt)⟩
          obtain ⟨z1, z2⟩ := hc7 j y7 hy7
          obtain ⟨y, hy⟩ : ∃ y, L[j]? = some y := ⟨_, List.getElem?_eq_getElem (by rw [HN.out]; omega)⟩
          obtain ⟨x1, yg, yo, rfl, x2⟩ := HC.out j y hy
          have H7 := Lib.hid (fun wq (hS : Below w4.heap.size w4 wq) => z2.below hS hg7)
          have HY := Lib.hid (fun wq (hS : Below w4.heap.size w4 wq) => x2.below (HBR.out.trans (hS.mono HBR.out.size)) (x2.lt (by rw [x1.size]; decide)))
          have H7S := Lib.hid z1.size
          have HYS := Lib.hid x1.size
          have HL7 := Lib.hid z1.length
          have HLY := Lib.hid x1.length
          have HY7 := Lib.hid hy7
          have HYK := Lib.hid hy
          have hjm : (j : Int) < (m7 : Int) := by have := HE7.out; omega
          have hjN : (j : Int) < (N : Int) := by omega
          clear e7 hg7 hc7 hy7 z1 z2 hy x1 x2
          go_upto_region 32 with fail
          refine startH (fun wq => Below w4.heap.size w4 wq) (by kernel_rfl) ?_
          have HSd := Lib.hid HB.out.drew
          generalize wr.drew = wS at *
          refine takeH 0 (some 102) (.pointer (some ⟨b3, 0, none⟩)) rfl rfl (by kernel_rfl) (by kernel_rfl) (by kernel_rfl) (fun _ _ _ h => h) rfl (fun wq hS => by go_simp) HSd.out ?_
          try simp only [Act.put, List.setIfInBounds_toArray, List.set_cons_succ, List.set_cons_zero]
          refine takeH 1 (some 103) (.slice (some ⟨g7, o7, none⟩) m7 c7) rfl rfl (by kernel_rfl) (by kernel_rfl) (by kernel_rfl) (fun _ _ _ h => h) rfl (fun wq hS => by have q := (HV4.out.below hS HV4.out.lt).cell (i := 0) rfl; go_simp) HSd.out ?_
          try simp only [Act.put, List.setIfInBounds_toArray, List.set_cons_succ, List.set_cons_zero]
          refine takeH 2 (some 104) (.int .i64 j) rfl rfl (by kernel_rfl) (by kernel_rfl) (by kernel_rfl) (fun _ _ _ h => h) rfl (fun wq hS => by go_simp) HSd.out ?_
          try simp only [Act.put, List.setIfInBounds_toArray, List.set_cons_succ, List.set_cons_zero]
          refine takeH 3 (some 105) (.pointer (some ⟨g7, o7 + j * 64, none⟩)) rfl rfl (by kernel_rfl) (by kernel_rfl) (by kernel_rfl) (fun _ _ _ h => h) rfl (fun wq hS => by go_simp) HSd.out ?_
          try simp only [Act.put, List.setIfInBounds_toArray, List.set_cons_succ, List.set_cons_zero]
          refine takeH 4 (some 106) (.agg ((u8s y7).toArray)) rfl rfl (by kernel_rfl) (by kernel_rfl) (by kernel_rfl) (fun _ _ _ h => h) rfl (fun wq hS => exec_load_at wq _ _ 50 _ rfl (g7) (o7 + j * 64) rfl ((u8s y7).toArray) _ Try.underlying50 rfl (by rw [H7S.out]; exact info50) (H7.out wq hS)) HSd.out ?_
          try simp only [Act.put, List.setIfInBounds_toArray, List.set_cons_succ, List.set_cons_zero]
          refine takeH 5 (some 107) (.slice (some ⟨yg, yo, none⟩) N cap) rfl rfl (by kernel_rfl) (by kernel_rfl) (by kernel_rfl) (fun _ _ _ h => h) rfl (fun wq hS => by go_simp) HSd.out ?_
          try simp only [Act.put, List.setIfInBounds_toArray, List.set_cons_succ, List.set_cons_zero]
          refine takeH 6 (some 108) (.int .i64 j) rfl rfl (by kernel_rfl) (by kernel_rfl) (by kernel_rfl) (fun _ _ _ h => h) rfl (fun wq hS => by go_simp) HSd.out ?_
          try simp only [Act.put, List.setIfInBounds_toArray, List.set_cons_succ, List.set_cons_zero]
          refine takeH 7 (some 109) (.pointer (some ⟨yg, yo + j * 64, none⟩)) rfl rfl (by kernel_rfl) (by kernel_rfl) (by kernel_rfl) (fun _ _ _ h => h) rfl (fun wq hS => by go_simp) HSd.out ?_
          try simp only [Act.put, List.setIfInBounds_toArray, List.set_cons_succ, List.set_cons_zero]
          refine takeH 8 (some 110) (.agg ((u8s y).toArray)) rfl rfl (by kernel_rfl) (by kernel_rfl) (by kernel_rfl) (fun _ _ _ h => h) rfl (fun wq hS => exec_load_at wq _ _ 50 _ rfl (yg) (yo + j * 64) rfl ((u8s y).toArray) _ Try.underlying50 rfl (by rw [HYS.out]; exact info50) (HY.out wq hS)) HSd.out ?_
          try simp only [Act.put, List.setIfInBounds_toArray, List.set_cons_succ, List.set_cons_zero]
          refine takeH 9 (some 111) (.bool (!decide (y7 = y))) rfl rfl (by kernel_rfl) (by kernel_rfl) (by kernel_rfl) (fun _ _ _ h => h) rfl (fun wq hS => by exact sneq50 HL7.out HLY.out _ _ _ rfl rfl rfl) HSd.out ?_
          try simp only [Act.put, List.setIfInBounds_toArray, List.set_cons_succ, List.set_cons_zero]
          refine wpAnyH_done (by kernel_rfl) ?_ _
          by_cases hyy : y7 = y
          · have hyb : (!decide (y7 = y)) = false := by simp [hyy]
            have HAL2 : Hid (∀ z, z < j + 1 → (lay2 n PL).1[z]? = L[z]?) := Lib.hid (fun z hz => by
              by_cases h : z < j
              · exact HAL.out z h
              · obtain rfl : z = j := by omega
                rw [HY7.out, HYK.out, hyy])
            rw [hyb]
            clear hyy hyb
            go_wp2_with fail
            go_roundg (t - (j + 1))
            case measure => omega
            case rel => exact ⟨j + 1, by omega, by omega, by go_num, HAL2.out, HSd.out⟩
          · have HX : Hid (readP n L = none) := Lib.hid (readR_off HSC.out HGR.out (fun e => hyy (by
              have h1 := HY7.out
              rw [e, List.getElem?_take, if_pos hjt, HYK.out] at h1
              exact (Option.some.inj h1).symm)))
            have hyb : (!decide (y7 = y)) = true := by simp [hyy]
            rw [hyb]
            have HRVX := HRV
            have HBRX := HBR
            clear hyy hyb
            have HRV := Lib.hid (HRVX.out.below HSd.out HRVX.out.lt)
            have HBR := Lib.hid (stay HBRX.out HSd.out)
            go_upto_region 33 with fail
            refine wp_region_lit ?_
            refine takeL (.agg z40) rfl (exec_build _ _ _ _ 40 _ rfl #[] (by simp) _ (run_build _ 40 _ _ built40z)) ?_
            try simp only [Act.put, List.setIfInBounds_toArray, List.set_cons_succ, List.set_cons_zero]
            refine store_all (cs := z40) HRV.out rfl info40 z40_one rfl rfl rfl ?_
            intro wz hZ hOZ hlZ
            try simp only [Act.put, List.setIfInBounds_toArray, List.set_cons_succ, List.set_cons_zero]
            have HBZ := Lib.hid (HBR.out.trans (hOZ.below HBR.out.size fun k hk => Nat.le_of_eq hk.symm))
            have HZ := Lib.hid hZ
            clear hZ hOZ hlZ
            refine wpList_nil ?_
            go_wp2_with fail
            refine bodyPost_ret (v := .agg z40) (results_cell_at rfl _ _ w.heap.size 0 _ _ rfl Try.underlying40 rfl info40 (HZ.out.all rfl)) rfl ⟨.inl ⟨HX.out, rfl⟩, HBZ.out⟩
        · obtain rfl : j = t := by omega
          have gj : decide ((j : Int) < (j : Int)) = false := decide_eq_false (by omega)
          have HEQ : Hid ((lay2 n PL).1 = L.take j) := Lib.hid (by
            apply List.ext_getElem?
            intro z
            by_cases hz : z < j
            · rw [HAL.out z hz, List.getElem?_take, if_pos hz]
            · rw [List.getElem?_eq_none (by rw [HM7.out, HE7.out]; omega), List.getElem?_eq_none (by rw [List.length_take]; omega)])
          have HX : Hid (readP n L = some PL) := Lib.hid (readR_yes HSC.out HGR.out HMB.out HEQ.out)
          have HPT := Lib.hid fun w h => rparts_of P PL HPLE.out s5 HLBB.out w h
          have HPV : Hid (partsN PL = (parts P.length : Int)) := Lib.hid (by unfold partsN; rw [HMB.out, if_pos rfl, ← HPLE.out, List.length_map])
          have HITX := Lib.hid (HIT4.out.below HB.out)
          have HAX := Lib.hid (HA4.out.below HB.out)
          have HRX := Lib.hid (HRV.out.below HB.out HRV.out.lt)
          have HVX := Lib.hid (HV4.out.below HB.out HV4.out.lt)
          have HBX := Lib.hid (stay HBR.out HB.out)
          rw [HPV.out] at HPT
          obtain ⟨pn, hpn⟩ : ∃ p, parts P.length = p := ⟨_, rfl⟩
          have HPN := Lib.hid hpn
          rw [hpn] at HPT
          obtain ⟨a5, c5, hs5⟩ := items_one HITX.out
          obtain ⟨m5, hm5⟩ : ∃ m, P.length = m := ⟨_, rfl⟩
          rw [hm5] at hs5
          subst hs5
          clear hjt hpn hm5 HB
          go_upto_region 34 with fail
          refine startH (fun wq => Only (fun k => k = w.heap.size) wr wq) (by kernel_rfl) ?_
          have HSd : Hid (Only (fun k => k = w.heap.size) wr wr.drew) := Lib.hid (Only.refl _ _).drew
          have HBd : Hid (Below wr.heap.size wr wr.drew) := Lib.hid (Below.refl _ _).drew
          have HIT5 := Lib.hid (HITX.out.below HBd.out)
          have HVN : Hid (b3 ≠ w.heap.size) := HB3N
          refine takeH 0 (some 113) (.slice a5 m5 c5) rfl rfl (by kernel_rfl) (by kernel_rfl) (by kernel_rfl) (fun _ _ _ h => h) rfl (fun wq hS => by go_simp) HSd.out ?_
          try simp only [Act.put, List.setIfInBounds_toArray, List.set_cons_succ, List.set_cons_zero]
          refine takeH 1 (some 114) (.pointer (some ⟨b3, 1, none⟩)) rfl rfl (by kernel_rfl) (by kernel_rfl) (by kernel_rfl) (fun _ _ _ h => h) rfl (fun wq hS => by go_simp) HSd.out ?_
          try simp only [Act.put, List.setIfInBounds_toArray, List.set_cons_succ, List.set_cons_zero]
          refine takeH 2 (some 115) (.slice a8 m8 c8) rfl rfl (by kernel_rfl) (by kernel_rfl) (by kernel_rfl) (fun _ _ _ h => h) rfl (fun wq hS => by have q := (HVX.out.only hS HVN.out).cell (i := 1) rfl; go_simp) HSd.out ?_
          try simp only [Act.put, List.setIfInBounds_toArray, List.set_cons_succ, List.set_cons_zero]
          refine takeH 3 (some 116) (.int .i64 j) rfl rfl (by kernel_rfl) (by kernel_rfl) (by kernel_rfl) (fun _ _ _ h => h) rfl (fun wq hS => by go_simp) HSd.out ?_
          try simp only [Act.put, List.setIfInBounds_toArray, List.set_cons_succ, List.set_cons_zero]
          refine takeH 4 (some 117) (.slice a5 m5 c5) rfl rfl (by kernel_rfl) (by kernel_rfl) (by kernel_rfl) (fun _ _ _ h => h) rfl (fun wq hS => by go_simp) HSd.out ?_
          try simp only [Act.put, List.setIfInBounds_toArray, List.set_cons_succ, List.set_cons_zero]
          refine oneH 5 (by kernel_rfl) rfl rfl fun K hK => ?_
          go_simp
          refine (HPT.out _ HIT5.out).mono ?_
          rintro e w6 ⟨rfl, hb6⟩
          have HB6d := Lib.hid (stay HBd.out hb6)
          have HS6 : Hid (Only (fun k => k = w.heap.size) wr w6) := Lib.hid (Only.of_below HB6d.out)
          have HIT6 := Lib.hid (HIT5.out.below hb6)
          have HA6 := Lib.hid (HAX.out.below HB6d.out)
          have HR6 := Lib.hid (HRX.out.below HB6d.out HRX.out.lt)
          have HB6 := Lib.hid (stay HBX.out HB6d.out)
          refine hK _ _ HS6.out ?_
          clear hK K hb6 HIT5
          try simp only [Act.put, List.setIfInBounds_toArray, List.set_cons_succ, List.set_cons_zero]
          refine takeH 6 (some 119) (.agg #[.slice a5 m5 c5, .slice a8 m8 c8, .int .i64 j, .int .i64 pn, .bool true]) rfl rfl (by kernel_rfl) (by kernel_rfl) (by kernel_rfl) (fun _ _ _ h => h) rfl (fun wq hS => by exact exec_build _ _ _ _ 40 _ rfl #[(0, .slice a5 m5 c5), (1, .slice a8 m8 c8), (2, .int .i64 j), (3, .int .i64 pn), (4, .bool true)] (by simp only [List.map_toArray, List.map_cons, List.map_nil]; rfl) _ (run_build _ 40 _ _ (built40 _ _ _ _ _ _ _ _))) HS6.out ?_
          try simp only [Act.put, List.setIfInBounds_toArray, List.set_cons_succ, List.set_cons_zero]
          refine oneH 7 (by kernel_rfl) rfl rfl fun K hK => ?_
          refine wp_store_all 40 _ _ rfl w.heap.size #[.slice a5 m5 c5, .slice a8 m8 c8, .int .i64 j, .int .i64 pn, .bool true] rfl rfl _ HR6.out rfl info40 (five_one _ _ _ _ _ _ _ _ _) ?_
          intro w7 hD hO
          have HS7 : Hid (Only (fun k => k = w.heap.size) wr w7) := Lib.hid (HS6.out.trans hO)
          have HIT7 := Lib.hid (HIT6.out.only HR6.out noIt40 hO)
          have HA7 := Lib.hid (HA6.out.only hO HA8N.out)
          have HB7 := Lib.hid (HB6.out.trans (hO.below HB6.out.size fun k hk => Nat.le_of_eq hk.symm))
          have HD7 := Lib.hid hD
          refine hK _ _ HS7.out ?_
          clear hK K hD hO
          try simp only [Act.put, List.setIfInBounds_toArray, List.set_cons_succ, List.set_cons_zero]
          refine wpAnyH_done (by kernel_rfl) ?_ _
          go_wp2_with fail
          refine bodyPost_ret (v := .agg #[.slice a5 m5 c5, .slice a8 m8 c8, .int .i64 j, .int .i64 pn, .bool true]) (results_cell_at rfl _ _ w.heap.size 0 _ _ rfl Try.underlying40 rfl info40 (HD7.out.all rfl)) rfl ⟨.inr ⟨_, P, _, by rw [HX.out, HPLE.out], by rw [HPLE.out, HM7.out, HE7.out, HPN.out], HIT7.out, by rw [HPLE.out]; exact HA7.out⟩, HB7.out⟩

end Go.Proofs.Ytbhaifdhmfmeoaa
