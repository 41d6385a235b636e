/- Package journal: lay, room. -/
import Derived.Test.YthlnmdihdcfphaaGreatDoorJc
namespace Go.Proofs.YthlnmdihdcfphaaGreatDoor
set_option linter.unusedSimpArgs false
set_option linter.unusedVariables false
open Go.RowKit

theorem Only.cellZ {g : Nat} {w w' : World} (ho : Only (fun k => k = g) w w') {a : Addr} {v : Value} (hne : a.block ≠ g) (hx : w.cell? a = some v) : w'.cell? a = some v := by
  have hb := ho.block a.block (lt_of_cell hx) hne
  rw [← hx]
  simp only [World.cell?, hb]
theorem Chain.onlyZ {g : Nat} {w w' : World} {n : Int} (ho : Only (fun k => k = g) w w') (hg : ∀ t, w.cell? ⟨g, 0, none⟩ ≠ some (.string t)) : ∀ {ts : List ByteArray} {v : Value}, Chain w n ts v → Chain w' n ts v
  | [], _, h => h
  | _ :: _, _, ⟨a, u, h1, h2, h3, h4, h5⟩ => by
    have hne : a ≠ g := by
      rintro rfl
      exact hg _ h2
    exact ⟨a, u, h1, Only.cellZ ho (a := ⟨a, 0, none⟩) hne h2, Only.cellZ ho (a := ⟨a, 1, none⟩) hne h3, Only.cellZ ho (a := ⟨a, 2, none⟩) hne h4, Chain.onlyZ ho hg h5⟩
theorem Fault.onlyZ {g : Nat} {w w' : World} {n : Int} {v : Value} (h : Fault w n v) (ho : Only (fun k => k = g) w w') {x : Int} {l : List Value} (hb : Blk w g (.int .i64 x :: l)) : Fault w' n v := by
  obtain ⟨T, d, t, ts, e, hc⟩ := h
  refine ⟨T, d, t, ts, e, hc.onlyZ ho fun q hq => ?_⟩
  rw [hb.cell (i := 0) rfl] at hq
  cases hq
section
variable {W w : World} {jb b : Nat} {F : Nat → Prop} {d : De.D} {g : Pl.Gm} {a : Ja} {fv : Value}
/-- May this group be put at all? -/
def laid (g : Pl.Gm) (a : Ja) (L : List It) : Bool := mayBe L && decide (((lay2 a.seq L).1.length : Int) ≤ g.l)
set_option maxRecDepth 100000 in
theorem jlay_no (h : Jn W w jb b F d g a fv) (l : List (It × Value)) (L : List It) (hL : l.map (·.1) = L) (sv : Value) (hlen : l.length < 100000) (hi : ItemsAt w sv l) (hno : laid g a L = false) : Calls Tryz.prog 42 #[.pointer (some ⟨jb, 0, none⟩), sv] w fun e w' => ∃ v, e = .returned (.tuple #[.slice none 0 0, .slice none 0 0, v]) ∧ Fault w' 1 v ∧ Below w.heap.size w w' := by
  have HLA := Lib.hid (lay_alike l L hL a.seq h.seq sv hlen w hi)
  have HNF := Lib.hid fun s w => new_fault 1 rfl s w
  have HJ := Lib.hid h
  obtain ⟨c0, c1, c2, c3, c4, c5, c6, c7, c8⟩ := h.cells
  obtain ⟨sa, sc, hsv⟩ := items_one hi
  obtain ⟨m, hm⟩ : ∃ m, l.length = m := ⟨_, rfl⟩
  rw [hm] at hsv
  subst hsv
  cases hmb : mayBe L
  · rw [hmb] at HLA
    clear h hL hlen hi hno hm hmb
    go_enter Tryz.func42, Tryz.ntmps42
    go_wp2_with fail
    refine HLA.out.mono ?_
    rintro e w1 ⟨s7, s8, rfl, ht⟩
    have HB := Lib.hid ht.b
    obtain ⟨a7, c7', hv7, -⟩ := ht.s.len
    obtain ⟨a8, c8', hv8⟩ := ht.a.ints.form
    subst hv7
    subst hv8
    clear ht c0 c1 c2 c3 c4 c5 c6 c7 c8
    go_wp2_with fail
    refine (HNF.out _ _).mono ?_
    rintro e w2 ⟨v, rfl, hf, hb⟩
    have HF := Lib.hid hf
    have HB2 := Lib.hid (stay HB.out hb)
    obtain ⟨T, dd, hv⟩ := hf.shape
    subst hv
    clear hf hb
    go_wp2_with fail
    first | go_ret3 | go_ret2 | go_ret
    exact ⟨_, rfl, HF.out, HB2.out⟩
  · rw [hmb] at HLA
    have hlt : g.l < ((lay2 a.seq L).1.length : Int) := by
      unfold laid at hno
      rw [hmb, Bool.true_and, decide_eq_false_iff_not] at hno
      omega
    have HLR : Hid (layR a.seq L = lay2 a.seq L) := Lib.hid (by unfold layR; rw [hmb]; rfl)
    rw [HLR.out] at HLA
    obtain ⟨N, hN⟩ : ∃ N, (lay2 a.seq L).1.length = N := ⟨_, rfl⟩
    rw [hN] at hlt
    have HNN := Lib.hid hN
    clear h hL hlen hi hno hm hmb hN
    go_enter Tryz.func42, Tryz.ntmps42
    go_wp2_with fail
    refine HLA.out.mono ?_
    rintro e w1 ⟨s7, s8, rfl, ht⟩
    have HB := Lib.hid ht.b
    have HJ1 := Lib.hid (HJ.out.below ht.b)
    obtain ⟨a7, c7', hv7, -⟩ := ht.s.len
    obtain ⟨a8, c8', hv8⟩ := ht.a.ints.form
    rw [HNN.out] at hv7
    subst hv7
    subst hv8
    clear ht c0 c1 c2 c3 c4 c5 c6 c7 c8
    have dl : decide (g.l < (N : Int)) = true := decide_eq_true hlt
    obtain ⟨c0, c1, c2, c3, c4, c5, c6, c7, c8⟩ := HJ1.out.cells
    go_wp2_with fail
    refine (HNF.out _ _).mono ?_
    rintro e w2 ⟨v, rfl, hf, hb⟩
    have HF := Lib.hid hf
    have HB2 := Lib.hid (stay HB.out hb)
    obtain ⟨T, dd, hv⟩ := hf.shape
    subst hv
    clear hf hb
    go_wp2_with fail
    first | go_ret3 | go_ret2 | go_ret
    exact ⟨_, rfl, HF.out, HB2.out⟩
set_option maxRecDepth 100000 in
theorem jlay_yes (h : Jn W w jb b F d g a fv) (l : List (It × Value)) (L : List It) (hL : l.map (·.1) = L) (sv : Value) (hlen : l.length < 100000) (hi : ItemsAt w sv l) (hyes : laid g a L = true) : Calls Tryz.prog 42 #[.pointer (some ⟨jb, 0, none⟩), sv] w fun e w' => ∃ s7 s8, e = .returned (.tuple #[s7, s8, .nilIface]) ∧ Two w w' s7 s8 (lay2 a.seq L) := by
  have hyy : mayBe L = true ∧ ((lay2 a.seq L).1.length : Int) ≤ g.l := by
    unfold laid at hyes
    simpa using hyes
  have HLA := Lib.hid (lay_alike l L hL a.seq h.seq sv hlen w hi)
  have HJ := Lib.hid h
  obtain ⟨c0, c1, c2, c3, c4, c5, c6, c7, c8⟩ := h.cells
  obtain ⟨sa, sc, hsv⟩ := items_one hi
  obtain ⟨m, hm⟩ : ∃ m, l.length = m := ⟨_, rfl⟩
  rw [hm] at hsv
  subst hsv
  obtain ⟨hmb, hle⟩ := hyy
  rw [hmb] at HLA
  have HLR : Hid (layR a.seq L = lay2 a.seq L) := Lib.hid (by unfold layR; rw [hmb]; rfl)
  rw [HLR.out] at HLA
  obtain ⟨N, hN⟩ : ∃ N, (lay2 a.seq L).1.length = N := ⟨_, rfl⟩
  rw [hN] at hle
  have HNN := Lib.hid hN
  clear h hL hlen hi hyes hm hmb hN
  go_enter Tryz.func42, Tryz.ntmps42
  go_wp2_with fail
  refine HLA.out.mono ?_
  rintro e w1 ⟨s7, s8, rfl, ht⟩
  have HT := Lib.hid ht
  have HJ1 := Lib.hid (HJ.out.below ht.b)
  obtain ⟨a7, c7', hv7, -⟩ := ht.s.len
  obtain ⟨a8, c8', hv8⟩ := ht.a.ints.form
  rw [HNN.out] at hv7
  subst hv7
  subst hv8
  clear ht c0 c1 c2 c3 c4 c5 c6 c7 c8
  have dl : decide (g.l < (N : Int)) = false := decide_eq_false (by omega)
  obtain ⟨c0, c1, c2, c3, c4, c5, c6, c7, c8⟩ := HJ1.out.cells
  go_wp2_with fail
  first | go_ret3 | go_ret2 | go_ret
  exact ⟨_, _, rfl, HT.out⟩
/-- Where a group of so many sectors goes. -/
def nextP (g : Pl.Gm) (a : Ja) (n : Nat) : Option Ja := if (n : Int) ≤ g.l - a.off then some a else match a.free with
  | [] => none
  | f :: r => some ⟨f, 0, a.seq, r⟩
theorem el25 : Tryz.prog.underlying 37 = some (.slice (Tryz.prog.elem 37)) ∧ Tryz.prog.elem 37 = 3 := ⟨by kernel_rfl, by kernel_rfl⟩
theorem size3 (w : World) : (Go.sizeOf 3).run Tryz.prog w = .ok 1 w := by
  obtain ⟨i, hi, hs⟩ := size_of info3
  simp [Go.sizeOf, typeInfo, hi, hs]
theorem run_from25 (w : World) (q : Option Addr) (n cap f : Nat) (h1 : f ≤ n) : (Instr.sliceAt 37 (.slice q n cap) (some (.int .i64 f)) none none).run Tryz.prog w = .ok (.slice (cutA q f cap 1) (n - f) (cap - f)) w := by
  rw [run_sliceAt_slice w 37 _ _ _ _ el25.1, run_slice_l w 37 q n cap el25.1 .i64 f (by omega) (by omega), el25.2, size3]
  rfl
theorem exec_from25 (w : World) (ev : Operand → Value) (op : Oper) (x y : Operand) (ho : op.op = .slice 37 x (some y) none none) (q : Option Addr) (n cap f : Nat) (hx : ev x = .slice q n cap) (hy : ev y = .int .i64 f) (h1 : f ≤ n) : (execOp ev op).run Tryz.prog w = .ok (.value (.slice (cutA q f cap 1) (n - f) (cap - f))) w := by
  unfold execOp
  simp only [ho, hx, hy, Option.map_some, Option.map_none, Sem.run_bind, run_from25 w q n cap f h1, Result.andThen_ok, Sem.run_pure]
theorem IntsAt.tail {w : World} {x : Int} {r : List Int} {q : Option Addr} {n cap : Nat} (h : IntsAt w (.slice q n cap) (x :: r)) (hcap : n ≤ cap) : IntsAt w (.slice (cutA q 1 cap 1) (n - 1) (cap - 1)) r ∧ ∀ b o m c, Value.slice (cutA q 1 cap 1) (n - 1) (cap - 1) = .slice (some ⟨b, o, none⟩) m c → ∃ o2, q = some ⟨b, o2, none⟩ := by
  obtain ⟨q', c', e, hc⟩ := h
  obtain ⟨b, o, hq, -⟩ := hc 0 x rfl
  injection e with e1 e2 e3
  subst e1
  subst hq
  simp only [List.length_cons] at e2
  refine ⟨⟨_, _, by rw [show n - 1 = r.length by omega], fun i y hy => ?_⟩, fun b' o' m c he => ?_⟩
  · obtain ⟨b2, o2, h1, h2⟩ := hc (i + 1) y (by simpa using hy)
    cases h1
    have : ¬ cap = 1 := by have := (List.getElem?_eq_some_iff.1 hy).1; omega
    refine ⟨b, o + 1, ?_, by rw [show o + 1 + i = o + (i + 1) by omega]; exact h2⟩
    unfold cutA
    rw [if_neg this]
    simp [Addr.add_lit]
  · unfold cutA at he
    split at he
    · cases he
      exact ⟨_, rfl⟩
    · simp only [Option.map_some, Addr.add_lit] at he
      injection he with h1 h2 h3
      simp only [Option.some.injEq, Addr.mk.injEq] at h1
      exact ⟨o, by rw [← h1.1]⟩
/-- What room hands back. -/
structure Room (w' : World) (fv fv' : Value) (a' : Ja) : Prop where
  fr : IntsAt w' fv' a'.free
  src : ∀ b o n c, fv' = .slice (some ⟨b, o, none⟩) n c → ∃ o2 n2 c2, fv = .slice (some ⟨b, o2, none⟩) n2 c2
  cp : ∀ q n c, fv' = .slice q n c → n ≤ c
set_option maxRecDepth 100000 in
theorem room_here (h : Jn W w jb b F d g a fv) (n : Nat) (hn : (n : Int) ≤ g.l - a.off) : Calls Tryz.prog 44 #[.pointer (some ⟨jb, 0, none⟩), .int .i64 n] w fun e w' => e = .returned (.tuple #[.agg #[.int .i64 a.seg, .int .i64 a.off, .int .u32 a.seq, fv], .nilIface]) ∧ Room w' fv fv a ∧ Below w.heap.size w w' := by
  have HJ := Lib.hid h
  obtain ⟨hgo, -, ho1, ho2, -⟩ := Ja.good_parts h.good
  have hg32 := hgo.2.2.1.2
  obtain ⟨fa, fc, hfv⟩ := h.form
  obtain ⟨m, hm⟩ : ∃ m, a.free.length = m := ⟨_, rfl⟩
  rw [hm] at hfv
  subst hfv
  have gw : Hid (IntKind.i64.wrap (g.l - a.off) = g.l - a.off) := Lib.hid (wrap64 (by omega) (by omega))
  have dn : decide ((n : Int) ≤ g.l - a.off) = true := decide_eq_true hn
  clear h hm hn hgo ho1 ho2 hg32
  go_enter Tryz.func44, Tryz.ntmps44
  go_upto_region 0 with fail
  refine wp_region_lit ?_
  refine alloc_g zero40 rfl ?_
  intro w0 hR hb hl
  try simp only [Act.put, List.setIfInBounds_toArray, List.set_cons_succ, List.set_cons_zero]
  have HR := Lib.hid hR
  have HB := Lib.hid hb
  have HJ0 := Lib.hid (HJ.out.below hb)
  have HLT : Hid (w.heap.size < w0.heap.size) := Lib.hid hl
  clear hR hb hl
  refine takeL (.nilIface) rfl (by go_simp) ?_
  try simp only [Act.put, List.setIfInBounds_toArray, List.set_cons_succ, List.set_cons_zero]
  refine wpList_nil ?_
  go_upto_region 1 with fail
  refine wp_region_lit ?_
  refine takeL (.pointer (some ⟨jb, 0, none⟩)) rfl (by go_simp) ?_
  try simp only [Act.put, List.setIfInBounds_toArray, List.set_cons_succ, List.set_cons_zero]
  refine takeL (.pointer (some ⟨jb, 0, none⟩)) rfl (by go_simp) ?_
  try simp only [Act.put, List.setIfInBounds_toArray, List.set_cons_succ, List.set_cons_zero]
  refine takeL (.pointer (some ⟨jb, 5, none⟩)) rfl (by go_simp) ?_
  try simp only [Act.put, List.setIfInBounds_toArray, List.set_cons_succ, List.set_cons_zero]
  refine takeL (.agg #[.int .i64 a.seg, .int .i64 a.off, .int .u32 a.seq, .slice fa m fc]) rfl (by obtain ⟨c0, c1, c2, c3, c4, c5, c6, c7, c8⟩ := HJ0.out.cells; go_simp) ?_
  try simp only [Act.put, List.setIfInBounds_toArray, List.set_cons_succ, List.set_cons_zero]
  refine alloc_g zero40 rfl ?_
  intro w1 hA hb hl
  try simp only [Act.put, List.setIfInBounds_toArray, List.set_cons_succ, List.set_cons_zero]
  refine store_all (cs := #[.int .i64 a.seg, .int .i64 a.off, .int .u32 a.seq, .slice fa m fc]) hA rfl info40 (at_one _ _ _ _ _ _) rfl rfl rfl ?_
  intro w2 hD hO hlD
  try simp only [Act.put, List.setIfInBounds_toArray, List.set_cons_succ, List.set_cons_zero]
  have hbb : Below w0.heap.size w0 w2 := hb.trans (hO.below hb.size fun k hk => Nat.le_of_eq hk.symm)
  have HV := Lib.hid hD
  have HB2 := Lib.hid (stay HB.out hbb)
  have HR2 := Lib.hid (HR.out.below hbb HR.out.lt)
  have HJ2 := Lib.hid (HJ0.out.below hbb)
  generalize w0.heap.size = v at *
  clear hA hb hl hD hO hlD hbb HJ0 HB HR
  refine wpList_nil ?_
  go_upto_region 2 with fail
  go_cut [20] from 11 to 20 (fun s wx => s = .bool true ∧ Below w2.heap.size w2 wx)
  case first =>
    refine startH (fun wq => Below w2.heap.size w2 wq) (by kernel_rfl) ?_
    have HSd : Hid (Below w2.heap.size w2 w2.drew) := Lib.hid (Below.refl _ _).drew
    refine takeH 0 (some 11) (.pointer (some ⟨jb, 0, none⟩)) rfl rfl (by kernel_rfl) (by kernel_rfl) (by kernel_rfl) (fun _ _ _ h => h) rfl (fun wq hS => by go_simp) HSd.out ?_
    try simp only [Act.put, List.setIfInBounds_toArray, List.set_cons_succ, List.set_cons_zero]
    refine takeH 1 (some 12) (.pointer (some ⟨jb, 0, none⟩)) rfl rfl (by kernel_rfl) (by kernel_rfl) (by kernel_rfl) (fun _ _ _ h => h) rfl (fun wq hS => by go_simp) HSd.out ?_
    try simp only [Act.put, List.setIfInBounds_toArray, List.set_cons_succ, List.set_cons_zero]
    refine takeH 2 (some 13) (.pointer (some ⟨jb, 1, none⟩)) rfl rfl (by kernel_rfl) (by kernel_rfl) (by kernel_rfl) (fun _ _ _ h => h) rfl (fun wq hS => by go_simp) HSd.out ?_
    try simp only [Act.put, List.setIfInBounds_toArray, List.set_cons_succ, List.set_cons_zero]
    refine takeH 3 (some 14) (.pointer (some ⟨jb, 3, none⟩)) rfl rfl (by kernel_rfl) (by kernel_rfl) (by kernel_rfl) (fun _ _ _ h => h) rfl (fun wq hS => by go_simp) HSd.out ?_
    try simp only [Act.put, List.setIfInBounds_toArray, List.set_cons_succ, List.set_cons_zero]
    refine takeH 4 (some 15) (.int .i64 g.l) rfl rfl (by kernel_rfl) (by kernel_rfl) (by kernel_rfl) (fun _ _ _ h => h) rfl (fun wq hS => by obtain ⟨c0, c1, c2, c3, c4, c5, c6, c7, c8⟩ := (HJ2.out.below hS).cells; go_simp) HSd.out ?_
    try simp only [Act.put, List.setIfInBounds_toArray, List.set_cons_succ, List.set_cons_zero]
    refine takeH 5 (some 16) (.pointer (some ⟨v, 1, none⟩)) rfl rfl (by kernel_rfl) (by kernel_rfl) (by kernel_rfl) (fun _ _ _ h => h) rfl (fun wq hS => by go_simp) HSd.out ?_
    try simp only [Act.put, List.setIfInBounds_toArray, List.set_cons_succ, List.set_cons_zero]
    refine takeH 6 (some 17) (.int .i64 a.off) rfl rfl (by kernel_rfl) (by kernel_rfl) (by kernel_rfl) (fun _ _ _ h => h) rfl (fun wq hS => by have q := (HV.out.below hS HV.out.lt).cell (i := 1) rfl; go_simp) HSd.out ?_
    try simp only [Act.put, List.setIfInBounds_toArray, List.set_cons_succ, List.set_cons_zero]
    refine takeH 7 (some 18) (.int .i64 (g.l - a.off)) rfl rfl (by kernel_rfl) (by kernel_rfl) (by kernel_rfl) (fun _ _ _ h => h) rfl (fun wq hS => by have q := gw.out; go_simp) HSd.out ?_
    try simp only [Act.put, List.setIfInBounds_toArray, List.set_cons_succ, List.set_cons_zero]
    refine takeH 8 (some 19) (.int .i64 n) rfl rfl (by kernel_rfl) (by kernel_rfl) (by kernel_rfl) (fun _ _ _ h => h) rfl (fun wq hS => by go_simp) HSd.out ?_
    try simp only [Act.put, List.setIfInBounds_toArray, List.set_cons_succ, List.set_cons_zero]
    refine takeH 9 (some 20) (.bool true) rfl rfl (by kernel_rfl) (by kernel_rfl) (by kernel_rfl) (fun _ _ _ h => h) rfl (fun wq hS => by go_simp) HSd.out ?_
    try simp only [Act.put, List.setIfInBounds_toArray, List.set_cons_succ, List.set_cons_zero]
    refine wpAnyH_done (by kernel_rfl) ?_ _
    go_wp2_with fail
    go_meet
    exact ⟨rfl, HSd.out⟩
  case rest =>
    obtain ⟨rfl, hb⟩ := hcut
    have HV3 := Lib.hid (HV.out.below hb HV.out.lt)
    have HR3 := Lib.hid (HR2.out.below hb HR2.out.lt)
    have HB3 := Lib.hid (stay HB2.out hb)
    clear hb
    go_upto_region 3 with fail
    refine wp_region_lit ?_
    refine takeL (.agg #[.int .i64 a.seg, .int .i64 a.off, .int .u32 a.seq, .slice fa m fc]) rfl (by have q := HV3.out; have q0 := q.cell (i := 0) rfl; have q1 := q.cell (i := 1) rfl; have q2 := q.cell (i := 2) rfl; have q3 := q.cell (i := 3) rfl; go_simp) ?_
    try simp only [Act.put, List.setIfInBounds_toArray, List.set_cons_succ, List.set_cons_zero]
    refine store_all (cs := #[.int .i64 a.seg, .int .i64 a.off, .int .u32 a.seq, .slice fa m fc]) HR3.out rfl info40 (at_one _ _ _ _ _ _) rfl rfl rfl ?_
    intro w4 hD hO hlD
    try simp only [Act.put, List.setIfInBounds_toArray, List.set_cons_succ, List.set_cons_zero]
    have HD := Lib.hid hD
    have HB4 := Lib.hid (HB3.out.trans (hO.below HB3.out.size fun k hk => Nat.le_of_eq hk.symm))
    clear hD hO hlD
    refine takeL (.nilIface) rfl (by go_simp) ?_
    try simp only [Act.put, List.setIfInBounds_toArray, List.set_cons_succ, List.set_cons_zero]
    refine wpList_nil ?_
    go_wp2_with fail
    refine bodyPost_ret (v := .tuple #[.agg #[.int .i64 a.seg, .int .i64 a.off, .int .u32 a.seq, .slice fa m fc], .nilIface]) (De.results_cell_tmp rfl _ _ w.heap.size 0 _ _ _ rfl rfl Tryz.underlying40 rfl info40 (HD.out.all rfl)) rfl ⟨rfl, ⟨HJ.out.fr.below HB4.out, fun b o n c e => ⟨o, n, c, e⟩, HJ.out.cp⟩, HB4.out⟩
set_option maxRecDepth 100000 in
theorem room_none (h : Jn W w jb b F d g a fv) (n : Nat) (hn : ¬ (n : Int) ≤ g.l - a.off) (hf : a.free = []) : Calls Tryz.prog 44 #[.pointer (some ⟨jb, 0, none⟩), .int .i64 n] w fun e w' => ∃ v, e = .returned (.tuple #[.agg #[.int .i64 0, .int .i64 0, .int .u32 0, .slice none 0 0], v]) ∧ Fault w' 14 v ∧ Below w.heap.size w w' := by
  have HJ := Lib.hid h
  obtain ⟨hgo, -, ho1, ho2, -⟩ := Ja.good_parts h.good
  have hg32 := hgo.2.2.1.2
  obtain ⟨fa, fc, hfv⟩ := h.form
  obtain ⟨m, hm⟩ : ∃ m, a.free.length = m := ⟨_, rfl⟩
  rw [hm] at hfv
  have hm0 : m = 0 := by rw [← hm, hf]; rfl
  subst hm0
  subst hfv
  have gw : Hid (IntKind.i64.wrap (g.l - a.off) = g.l - a.off) := Lib.hid (wrap64 (by omega) (by omega))
  have dn : decide ((n : Int) ≤ g.l - a.off) = false := decide_eq_false hn
  have HNF := Lib.hid fun s w => new_fault 14 rfl s w
  clear h hf hm hn hgo ho1 ho2 hg32
  go_enter Tryz.func44, Tryz.ntmps44
  go_upto_region 0 with fail
  refine wp_region_lit ?_
  refine alloc_g zero40 rfl ?_
  intro w0 hR hb hl
  try simp only [Act.put, List.setIfInBounds_toArray, List.set_cons_succ, List.set_cons_zero]
  have HR := Lib.hid hR
  have HB := Lib.hid hb
  have HJ0 := Lib.hid (HJ.out.below hb)
  have HLT : Hid (w.heap.size < w0.heap.size) := Lib.hid hl
  clear hR hb hl
  refine takeL (.nilIface) rfl (by go_simp) ?_
  try simp only [Act.put, List.setIfInBounds_toArray, List.set_cons_succ, List.set_cons_zero]
  refine wpList_nil ?_
  go_upto_region 1 with fail
  refine wp_region_lit ?_
  refine takeL (.pointer (some ⟨jb, 0, none⟩)) rfl (by go_simp) ?_
  try simp only [Act.put, List.setIfInBounds_toArray, List.set_cons_succ, List.set_cons_zero]
  refine takeL (.pointer (some ⟨jb, 0, none⟩)) rfl (by go_simp) ?_
  try simp only [Act.put, List.setIfInBounds_toArray, List.set_cons_succ, List.set_cons_zero]
  refine takeL (.pointer (some ⟨jb, 5, none⟩)) rfl (by go_simp) ?_
  try simp only [Act.put, List.setIfInBounds_toArray, List.set_cons_succ, List.set_cons_zero]
  refine takeL (.agg #[.int .i64 a.seg, .int .i64 a.off, .int .u32 a.seq, .slice fa 0 fc]) rfl (by obtain ⟨c0, c1, c2, c3, c4, c5, c6, c7, c8⟩ := HJ0.out.cells; go_simp) ?_
  try simp only [Act.put, List.setIfInBounds_toArray, List.set_cons_succ, List.set_cons_zero]
  refine alloc_g zero40 rfl ?_
  intro w1 hA hb hl
  try simp only [Act.put, List.setIfInBounds_toArray, List.set_cons_succ, List.set_cons_zero]
  refine store_all (cs := #[.int .i64 a.seg, .int .i64 a.off, .int .u32 a.seq, .slice fa 0 fc]) hA rfl info40 (at_one _ _ _ _ _ _) rfl rfl rfl ?_
  intro w2 hD hO hlD
  try simp only [Act.put, List.setIfInBounds_toArray, List.set_cons_succ, List.set_cons_zero]
  have hbb : Below w0.heap.size w0 w2 := hb.trans (hO.below hb.size fun k hk => Nat.le_of_eq hk.symm)
  have HV := Lib.hid hD
  have HB2 := Lib.hid (stay HB.out hbb)
  have HR2 := Lib.hid (HR.out.below hbb HR.out.lt)
  have HJ2 := Lib.hid (HJ0.out.below hbb)
  generalize w0.heap.size = v at *
  clear hA hb hl hD hO hlD hbb HJ0 HB HR
  refine wpList_nil ?_
  go_upto_region 2 with fail
  go_cut [20] from 11 to 20 (fun s wx => s = .bool false ∧ Below w2.heap.size w2 wx)
  case first =>
    refine startH (fun wq => Below w2.heap.size w2 wq) (by kernel_rfl) ?_
    have HSd : Hid (Below w2.heap.size w2 w2.drew) := Lib.hid (Below.refl _ _).drew
    refine takeH 0 (some 11) (.pointer (some ⟨jb, 0, none⟩)) rfl rfl (by kernel_rfl) (by kernel_rfl) (by kernel_rfl) (fun _ _ _ h => h) rfl (fun wq hS => by go_simp) HSd.out ?_
    try simp only [Act.put, List.setIfInBounds_toArray, List.set_cons_succ, List.set_cons_zero]
    refine takeH 1 (some 12) (.pointer (some ⟨jb, 0, none⟩)) rfl rfl (by kernel_rfl) (by kernel_rfl) (by kernel_rfl) (fun _ _ _ h => h) rfl (fun wq hS => by go_simp) HSd.out ?_
    try simp only [Act.put, List.setIfInBounds_toArray, List.set_cons_succ, List.set_cons_zero]
    refine takeH 2 (some 13) (.pointer (some ⟨jb, 1, none⟩)) rfl rfl (by kernel_rfl) (by kernel_rfl) (by kernel_rfl) (fun _ _ _ h => h) rfl (fun wq hS => by go_simp) HSd.out ?_
    try simp only [Act.put, List.setIfInBounds_toArray, List.set_cons_succ, List.set_cons_zero]
    refine takeH 3 (some 14) (.pointer (some ⟨jb, 3, none⟩)) rfl rfl (by kernel_rfl) (by kernel_rfl) (by kernel_rfl) (fun _ _ _ h => h) rfl (fun wq hS => by go_simp) HSd.out ?_
    try simp only [Act.put, List.setIfInBounds_toArray, List.set_cons_succ, List.set_cons_zero]
    refine takeH 4 (some 15) (.int .i64 g.l) rfl rfl (by kernel_rfl) (by kernel_rfl) (by kernel_rfl) (fun _ _ _ h => h) rfl (fun wq hS => by obtain ⟨c0, c1, c2, c3, c4, c5, c6, c7, c8⟩ := (HJ2.out.below hS).cells; go_simp) HSd.out ?_
    try simp only [Act.put, List.setIfInBounds_toArray, List.set_cons_succ, List.set_cons_zero]
    refine takeH 5 (some 16) (.pointer (some ⟨v, 1, none⟩)) rfl rfl (by kernel_rfl) (by kernel_rfl) (by kernel_rfl) (fun _ _ _ h => h) rfl (fun wq hS => by go_simp) HSd.out ?_
    try simp only [Act.put, List.setIfInBounds_toArray, List.set_cons_succ, List.set_cons_zero]
    refine takeH 6 (some 17) (.int .i64 a.off) rfl rfl (by kernel_rfl) (by kernel_rfl) (by kernel_rfl) (fun _ _ _ h => h) rfl (fun wq hS => by have q := (HV.out.below hS HV.out.lt).cell (i := 1) rfl; go_simp) HSd.out ?_
    try simp only [Act.put, List.setIfInBounds_toArray, List.set_cons_succ, List.set_cons_zero]
    refine takeH 7 (some 18) (.int .i64 (g.l - a.off)) rfl rfl (by kernel_rfl) (by kernel_rfl) (by kernel_rfl) (fun _ _ _ h => h) rfl (fun wq hS => by have q := gw.out; go_simp) HSd.out ?_
    try simp only [Act.put, List.setIfInBounds_toArray, List.set_cons_succ, List.set_cons_zero]
    refine takeH 8 (some 19) (.int .i64 n) rfl rfl (by kernel_rfl) (by kernel_rfl) (by kernel_rfl) (fun _ _ _ h => h) rfl (fun wq hS => by go_simp) HSd.out ?_
    try simp only [Act.put, List.setIfInBounds_toArray, List.set_cons_succ, List.set_cons_zero]
    refine takeH 9 (some 20) (.bool false) rfl rfl (by kernel_rfl) (by kernel_rfl) (by kernel_rfl) (fun _ _ _ h => h) rfl (fun wq hS => by go_simp) HSd.out ?_
    try simp only [Act.put, List.setIfInBounds_toArray, List.set_cons_succ, List.set_cons_zero]
    refine wpAnyH_done (by kernel_rfl) ?_ _
    go_wp2_with fail
    go_meet
    exact ⟨rfl, HSd.out⟩
  case rest =>
    obtain ⟨rfl, hb⟩ := hcut
    have HV3 := Lib.hid (HV.out.below hb HV.out.lt)
    have HR3 := Lib.hid (HR2.out.below hb HR2.out.lt)
    have HB3 := Lib.hid (stay HB2.out hb)
    clear hb
    have q3 := HV3.out.cell (i := 3) rfl
    go_upto_region 5 with fail
    refine wp_region_lit ?_
    clear q3
    refine takeL (.agg #[.int .i64 0, .int .i64 0, .int .u32 0, .slice none 0 0]) rfl (exec_build _ _ _ _ 40 _ rfl #[] (by simp) _ (run_build _ 40 _ _ built40z)) ?_
    try simp only [Act.put, List.setIfInBounds_toArray, List.set_cons_succ, List.set_cons_zero]
    refine wpList_op rfl fun K hK => ?_
    go_simp
    refine (HNF.out _ _).mono ?_
    rintro e w4 ⟨v2, rfl, hf, hb⟩
    have HF4 := Lib.hid hf
    have HB4 := Lib.hid (stay HB3.out hb)
    have HR4 := Lib.hid (HR3.out.below hb HR3.out.lt)
    obtain ⟨T, dd, hv⟩ := hf.shape
    subst hv
    clear hf hb
    refine hK _ _ ?_
    clear hK K
    try simp only [Act.put, List.setIfInBounds_toArray, List.set_cons_succ, List.set_cons_zero]
    refine store_all (cs := #[.int .i64 0, .int .i64 0, .int .u32 0, .slice none 0 0]) HR4.out rfl info40 (at_one _ _ _ _ _ _) rfl rfl rfl ?_
    intro w5 hD hO hlD
    try simp only [Act.put, List.setIfInBounds_toArray, List.set_cons_succ, List.set_cons_zero]
    have HD := Lib.hid hD
    have HB5 := Lib.hid (HB4.out.trans (hO.below HB4.out.size fun k hk => Nat.le_of_eq hk.symm))
    have HF5 := Lib.hid (HF4.out.onlyZ hO HR4.out)
    clear hD hO hlD
    refine takeL (.iface T dd) rfl (by go_simp) ?_
    try simp only [Act.put, List.setIfInBounds_toArray, List.set_cons_succ, List.set_cons_zero]
    refine wpList_nil ?_
    go_wp2_with fail
    refine bodyPost_ret (v := .tuple #[.agg #[.int .i64 0, .int .i64 0, .int .u32 0, .slice none 0 0], .iface T dd]) (De.results_cell_tmp rfl _ _ w.heap.size 0 _ _ _ rfl rfl Tryz.underlying40 rfl info40 (HD.out.all rfl)) rfl ⟨_, rfl, HF5.out, HB5.out⟩
set_option maxRecDepth 100000 in
set_option maxHeartbeats 1000000 in
theorem room_next (h : Jn W w jb b F d g a fv) (n : Nat) (hn : ¬ (n : Int) ≤ g.l - a.off) (f : Int) (r : List Int) (hf : a.free = f :: r) : Calls Tryz.prog 44 #[.pointer (some ⟨jb, 0, none⟩), .int .i64 n] w fun e w' => ∃ fv', e = .returned (.tuple #[.agg #[.int .i64 f, .int .i64 0, .int .u32 a.seq, fv'], .nilIface]) ∧ Room w' fv fv' ⟨f, 0, a.seq, r⟩ ∧ Below w.heap.size w w' := by
  have HJ := Lib.hid h
  obtain ⟨hgo, -, ho1, ho2, -⟩ := Ja.good_parts h.good
  have hg32 := hgo.2.2.1.2
  have hfew := Ja.few h.good
  obtain ⟨fa, fc, hfv⟩ := h.form
  obtain ⟨m, hm⟩ : ∃ m, a.free.length = m := ⟨_, rfl⟩
  have hm1 : m = r.length + 1 := by rw [← hm, hf]; rfl
  rw [hm] at hfv hfew
  subst hfv
  have HCP := Lib.hid (h.cp _ _ _ rfl)
  have HT : Hid (∀ w', Below w.heap.size w w' → IntsAt w' (.slice (cutA fa 1 fc 1) (m - 1) (fc - 1)) r ∧ ∀ b o m' c, Value.slice (cutA fa 1 fc 1) (m - 1) (fc - 1) = .slice (some ⟨b, o, none⟩) m' c → ∃ o2, fa = some ⟨b, o2, none⟩) := Lib.hid (fun w' hb => (show IntsAt w' (.slice fa m fc) (f :: r) from by rw [← hf]; exact h.fr.below hb).tail (h.cp _ _ _ rfl))
  obtain ⟨qb, qo, hfa, hq0⟩ : ∃ b o, fa = some ⟨b, o, none⟩ ∧ w.cell? ⟨b, o, none⟩ = some (.int .i64 f) := by
    obtain ⟨q', c', e, hc⟩ := h.fr
    obtain ⟨b2, o2, h1, h2⟩ := hc 0 f (by rw [hf]; rfl)
    cases e
    exact ⟨b2, o2, h1, h2⟩
  subst hfa
  have HQ := Lib.hid hq0
  have HQL := Lib.hid (block_lt_of_cell hq0)
  have gw : Hid (IntKind.i64.wrap (g.l - a.off) = g.l - a.off) := Lib.hid (wrap64 (by omega) (by omega))
  have dn : decide ((n : Int) ≤ g.l - a.off) = false := decide_eq_false hn
  have hmz : ((m : Int) == 0) = false := by rw [beq_eq_false_iff_ne]; omega
  have hmp : (0 : Int) < (m : Int) := by omega
  have hmn : 1 ≤ m := by omega
  clear h hf hm hn hgo ho1 ho2 hg32 hq0 hfew hm1
  go_enter Tryz.func44, Tryz.ntmps44
  go_upto_region 0 with fail
  refine wp_region_lit ?_
  refine alloc_g zero40 rfl ?_
  intro w0 hR hb hl
  try simp only [Act.put, List.setIfInBounds_toArray, List.set_cons_succ, List.set_cons_zero]
  have HR := Lib.hid hR
  have HB := Lib.hid hb
  have HJ0 := Lib.hid (HJ.out.below hb)
  have HLT : Hid (w.heap.size < w0.heap.size) := Lib.hid hl
  clear hR hb hl
  refine takeL (.nilIface) rfl (by go_simp) ?_
  try simp only [Act.put, List.setIfInBounds_toArray, List.set_cons_succ, List.set_cons_zero]
  refine wpList_nil ?_
  go_upto_region 1 with fail
  refine wp_region_lit ?_
  refine takeL (.pointer (some ⟨jb, 0, none⟩)) rfl (by go_simp) ?_
  try simp only [Act.put, List.setIfInBounds_toArray, List.set_cons_succ, List.set_cons_zero]
  refine takeL (.pointer (some ⟨jb, 0, none⟩)) rfl (by go_simp) ?_
  try simp only [Act.put, List.setIfInBounds_toArray, List.set_cons_succ, List.set_cons_zero]
  refine takeL (.pointer (some ⟨jb, 5, none⟩)) rfl (by go_simp) ?_
  try simp only [Act.put, List.setIfInBounds_toArray, List.set_cons_succ, List.set_cons_zero]
  refine takeL (.agg #[.int .i64 a.seg, .int .i64 a.off, .int .u32 a.seq, .slice (some ⟨qb, qo, none⟩) m fc]) rfl (by obtain ⟨c0, c1, c2, c3, c4, c5, c6, c7, c8⟩ := HJ0.out.cells; go_simp) ?_
  try simp only [Act.put, List.setIfInBounds_toArray, List.set_cons_succ, List.set_cons_zero]
  refine alloc_g zero40 rfl ?_
  intro w1 hA hb hl
  try simp only [Act.put, List.setIfInBounds_toArray, List.set_cons_succ, List.set_cons_zero]
  refine store_all (cs := #[.int .i64 a.seg, .int .i64 a.off, .int .u32 a.seq, .slice (some ⟨qb, qo, none⟩) m fc]) hA rfl info40 (at_one _ _ _ _ _ _) rfl rfl rfl ?_
  intro w2 hD hO hlD
  try simp only [Act.put, List.setIfInBounds_toArray, List.set_cons_succ, List.set_cons_zero]
  have hbb : Below w0.heap.size w0 w2 := hb.trans (hO.below hb.size fun k hk => Nat.le_of_eq hk.symm)
  have HV := Lib.hid hD
  have HB2 := Lib.hid (stay HB.out hbb)
  have HR2 := Lib.hid (HR.out.below hbb HR.out.lt)
  have HJ2 := Lib.hid (HJ0.out.below hbb)
  generalize w0.heap.size = v at *
  clear hA hb hl hD hO hlD hbb HJ0 HB HR
  refine wpList_nil ?_
  go_upto_region 2 with fail
  go_cut [20] from 11 to 20 (fun s wx => s = .bool false ∧ Below w2.heap.size w2 wx)
  case first =>
    refine startH (fun wq => Below w2.heap.size w2 wq) (by kernel_rfl) ?_
    have HSd : Hid (Below w2.heap.size w2 w2.drew) := Lib.hid (Below.refl _ _).drew
    refine takeH 0 (some 11) (.pointer (some ⟨jb, 0, none⟩)) rfl rfl (by kernel_rfl) (by kernel_rfl) (by kernel_rfl) (fun _ _ _ h => h) rfl (fun wq hS => by go_simp) HSd.out ?_
    try simp only [Act.put, List.setIfInBounds_toArray, List.set_cons_succ, List.set_cons_zero]
    refine takeH 1 (some 12) (.pointer (some ⟨jb, 0, none⟩)) rfl rfl (by kernel_rfl) (by kernel_rfl) (by kernel_rfl) (fun _ _ _ h => h) rfl (fun wq hS => by go_simp) HSd.out ?_
    try simp only [Act.put, List.setIfInBounds_toArray, List.set_cons_succ, List.set_cons_zero]
    refine takeH 2 (some 13) (.pointer (some ⟨jb, 1, none⟩)) rfl rfl (by kernel_rfl) (by kernel_rfl) (by kernel_rfl) (fun _ _ _ h => h) rfl (fun wq hS => by go_simp) HSd.out ?_
    try simp only [Act.put, List.setIfInBounds_toArray, List.set_cons_succ, List.set_cons_zero]
    refine takeH 3 (some 14) (.pointer (some ⟨jb, 3, none⟩)) rfl rfl (by kernel_rfl) (by kernel_rfl) (by kernel_rfl) (fun _ _ _ h => h) rfl (fun wq hS => by go_simp) HSd.out ?_
    try simp only [Act.put, List.setIfInBounds_toArray, List.set_cons_succ, List.set_cons_zero]
    refine takeH 4 (some 15) (.int .i64 g.l) rfl rfl (by kernel_rfl) (by kernel_rfl) (by kernel_rfl) (fun _ _ _ h => h) rfl (fun wq hS => by obtain ⟨c0, c1, c2, c3, c4, c5, c6, c7, c8⟩ := (HJ2.out.below hS).cells; go_simp) HSd.out ?_
    try simp only [Act.put, List.setIfInBounds_toArray, List.set_cons_succ, List.set_cons_zero]
    refine takeH 5 (some 16) (.pointer (some ⟨v, 1, none⟩)) rfl rfl (by kernel_rfl) (by kernel_rfl) (by kernel_rfl) (fun _ _ _ h => h) rfl (fun wq hS => by go_simp) HSd.out ?_
    try simp only [Act.put, List.setIfInBounds_toArray, List.set_cons_succ, List.set_cons_zero]
    refine takeH 6 (some 17) (.int .i64 a.off) rfl rfl (by kernel_rfl) (by kernel_rfl) (by kernel_rfl) (fun _ _ _ h => h) rfl (fun wq hS => by have q := (HV.out.below hS HV.out.lt).cell (i := 1) rfl; go_simp) HSd.out ?_
    try simp only [Act.put, List.setIfInBounds_toArray, List.set_cons_succ, List.set_cons_zero]
    refine takeH 7 (some 18) (.int .i64 (g.l - a.off)) rfl rfl (by kernel_rfl) (by kernel_rfl) (by kernel_rfl) (fun _ _ _ h => h) rfl (fun wq hS => by have q := gw.out; go_simp) HSd.out ?_
    try simp only [Act.put, List.setIfInBounds_toArray, List.set_cons_succ, List.set_cons_zero]
    refine takeH 8 (some 19) (.int .i64 n) rfl rfl (by kernel_rfl) (by kernel_rfl) (by kernel_rfl) (fun _ _ _ h => h) rfl (fun wq hS => by go_simp) HSd.out ?_
    try simp only [Act.put, List.setIfInBounds_toArray, List.set_cons_succ, List.set_cons_zero]
    refine takeH 9 (some 20) (.bool false) rfl rfl (by kernel_rfl) (by kernel_rfl) (by kernel_rfl) (fun _ _ _ h => h) rfl (fun wq hS => by go_simp) HSd.out ?_
    try simp only [Act.put, List.setIfInBounds_toArray, List.set_cons_succ, List.set_cons_zero]
    refine wpAnyH_done (by kernel_rfl) ?_ _
    go_wp2_with fail
    go_meet
    exact ⟨rfl, HSd.out⟩
  case rest =>
    obtain ⟨rfl, hb⟩ := hcut
    have HV3 := Lib.hid (HV.out.below hb HV.out.lt)
    have HR3 := Lib.hid (HR2.out.below hb HR2.out.lt)
    have HB3 := Lib.hid (stay HB2.out hb)
    have HVS : Hid (w.heap.size < v) := HLT
    clear hb HV HR2 HB2 HJ2
    have q3 := HV3.out.cell (i := 3) rfl
    go_upto_region 6 with fail
    go_cut [28] from 29 to 37 (fun s wx => s = .pointer (some ⟨v, 3, none⟩) ∧ Blk wx v [.int .i64 f, .int .i64 0, .int .u32 a.seq, .slice (cutA (some ⟨qb, qo, none⟩) 1 fc 1) (m - 1) (fc - 1)] ∧ Only (fun k => k = v) wc wx)
    case first =>
      refine startH (fun wq => Only (fun k => k = v) wc wq) (by kernel_rfl) ?_
      have HSd : Hid (Only (fun k => k = v) wc wc.drew) := Lib.hid (Only.refl _ _).drew
      have HVd := Lib.hid HV3.out.drew
      have HQ3 : Hid (∀ wq, Only (fun k => k = v) wc wq → wq.cell? ⟨qb, qo, none⟩ = some (.int .i64 f)) := Lib.hid fun wq hS => hS.cellZ (a := ⟨qb, qo, none⟩) (by have h1 : qb < w.heap.size := HQL.out; have h2 : w.heap.size < v := HVS.out; show ¬ qb = v; omega) ((HB3.out.cell (p := ⟨qb, qo, none⟩) HQL.out).trans HQ.out)
      have HVL : Hid (Only (fun k => k = v) wc wc.drew) := HSd
      generalize wc.drew = wS at *
      refine takeH 0 (some 28) (.pointer (some ⟨v, 3, none⟩)) rfl rfl (by kernel_rfl) (by kernel_rfl) (by kernel_rfl) (fun _ _ _ h => h) rfl (fun wq hS => by go_simp) HSd.out ?_
      try simp only [Act.put, List.setIfInBounds_toArray, List.set_cons_succ, List.set_cons_zero]
      refine takeH 4 (some 32) (.pointer (some ⟨v, 3, none⟩)) rfl rfl (by kernel_rfl) (by kernel_rfl) (by kernel_rfl) (fun _ _ _ h => h) rfl (fun wq hS => by go_simp) HSd.out ?_
      try simp only [Act.put, List.setIfInBounds_toArray, List.set_cons_succ, List.set_cons_zero]
      refine twoH 1 5 (by kernel_rfl) rfl rfl rfl rfl (fun K hK => ?_) (fun K hK => ?_)
      · refine wp_runTo (some 29) rfl (.slice (some ⟨qb, qo, none⟩) m fc) wS (by have hq := HVd.out.cell (i := 3) rfl; go_simp) ?_
        refine hK _ _ HSd.out ?_
        clear hK K
        try simp only [Act.put, List.setIfInBounds_toArray, List.set_cons_succ, List.set_cons_zero]
        refine takeH 2 (some 30) (.pointer (some ⟨qb, qo, none⟩)) rfl rfl (by kernel_rfl) (by kernel_rfl) (by kernel_rfl) (fun _ _ _ h => h) rfl (fun wq hS => by have hm0 : ¬ m = 0 := (by omega); have hm1 : (0 : Int) < (m : Int) := hmp; go_simp) HSd.out ?_
        try simp only [Act.put, List.setIfInBounds_toArray, List.set_cons_succ, List.set_cons_zero]
        refine takeH 3 (some 31) (.int .i64 f) rfl rfl (by kernel_rfl) (by kernel_rfl) (by kernel_rfl) (fun _ _ _ h => h) rfl (fun wq hS => by have q := HQ3.out wq hS; go_simp) HSd.out ?_
        try simp only [Act.put, List.setIfInBounds_toArray, List.set_cons_succ, List.set_cons_zero]
        refine oneH 5 (by kernel_rfl) rfl rfl fun K hK => ?_
        refine wp_runTo (some 33) rfl (.slice (some ⟨qb, qo, none⟩) m fc) wS (by have hq := HVd.out.cell (i := 3) rfl; go_simp) ?_
        refine hK _ _ HSd.out ?_
        clear hK K
        try simp only [Act.put, List.setIfInBounds_toArray, List.set_cons_succ, List.set_cons_zero]
        refine takeH 6 (some 34) (.slice (cutA (some ⟨qb, qo, none⟩) 1 fc 1) (m - 1) (fc - 1)) rfl rfl (by kernel_rfl) (by kernel_rfl) (by kernel_rfl) (fun _ _ _ h => h) rfl (fun wq hS => exec_from25 wq _ _ _ _ rfl (some ⟨qb, qo, none⟩) m fc 1 rfl rfl hmn) HSd.out ?_
        try simp only [Act.put, List.setIfInBounds_toArray, List.set_cons_succ, List.set_cons_zero]
        refine takeH 7 (some 35) (.pointer (some ⟨v, 0, none⟩)) rfl rfl (by kernel_rfl) (by kernel_rfl) (by kernel_rfl) (fun _ _ _ h => h) rfl (fun wq hS => by go_simp) HSd.out ?_
        try simp only [Act.put, List.setIfInBounds_toArray, List.set_cons_succ, List.set_cons_zero]
        refine oneH 8 (by kernel_rfl) rfl rfl fun K hK => ?_
        refine swp_skipTo none rfl (wS.setCell ⟨v, 0, none⟩ (.int .i64 f)) (by have hq := HVd.out.cell (i := 0) rfl; have hf := HVd.out.frozen 0; go_simp) ?_
        have HSe : Hid (Only (fun k => k = v) wc (wS.setCell ⟨v, 0, none⟩ (.int .i64 f))) := Lib.hid (HSd.out.setCell (p := ⟨v, 0, none⟩) (.inl rfl) _)
        have HVe := Lib.hid (HVd.out.set 0 (.int .i64 f))
        refine hK _ _ HSe.out ?_
        clear hK K
        generalize wS.setCell ⟨v, 0, none⟩ (.int .i64 f) = wT at *
        try simp only [Act.put, List.setIfInBounds_toArray, List.set_cons_succ, List.set_cons_zero]
        refine takeH 9 (some 36) (.pointer (some ⟨v, 1, none⟩)) rfl rfl (by kernel_rfl) (by kernel_rfl) (by kernel_rfl) (fun _ _ _ h => h) rfl (fun wq hS => by go_simp) HSe.out ?_
        try simp only [Act.put, List.setIfInBounds_toArray, List.set_cons_succ, List.set_cons_zero]
        refine oneH 10 (by kernel_rfl) rfl rfl fun K hK => ?_
        refine swp_skipTo none rfl (wT.setCell ⟨v, 1, none⟩ (.int .i64 0)) (by have hq := HVe.out.cell (i := 1) rfl; have hf := HVe.out.frozen 1; go_simp) ?_
        have HSf : Hid (Only (fun k => k = v) wc (wT.setCell ⟨v, 1, none⟩ (.int .i64 0))) := Lib.hid (HSe.out.setCell (p := ⟨v, 1, none⟩) (.inl rfl) _)
        have HVf := Lib.hid (HVe.out.set 1 (.int .i64 0))
        refine hK _ _ HSf.out ?_
        clear hK K
        generalize wT.setCell ⟨v, 1, none⟩ (.int .i64 0) = wU at *
        try simp only [Act.put, List.setIfInBounds_toArray, List.set_cons_succ, List.set_cons_zero]
        refine takeH 11 (some 37) (.pointer (some ⟨v, 3, none⟩)) rfl rfl (by kernel_rfl) (by kernel_rfl) (by kernel_rfl) (fun _ _ _ h => h) rfl (fun wq hS => by go_simp) HSf.out ?_
        try simp only [Act.put, List.setIfInBounds_toArray, List.set_cons_succ, List.set_cons_zero]
        refine oneH 12 (by kernel_rfl) rfl rfl fun K hK => ?_
        refine swp_skipTo none rfl (wU.setCell ⟨v, 3, none⟩ (.slice (cutA (some ⟨qb, qo, none⟩) 1 fc 1) (m - 1) (fc - 1))) (by have hq := HVf.out.cell (i := 3) rfl; have hf := HVf.out.frozen 3; go_simp) ?_
        have HSg : Hid (Only (fun k => k = v) wc (wU.setCell ⟨v, 3, none⟩ (.slice (cutA (some ⟨qb, qo, none⟩) 1 fc 1) (m - 1) (fc - 1)))) := Lib.hid (HSf.out.setCell (p := ⟨v, 3, none⟩) (.inl rfl) _)
        have HVg := Lib.hid (HVf.out.set 3 (.slice (cutA (some ⟨qb, qo, none⟩) 1 fc 1) (m - 1) (fc - 1)))
        refine hK _ _ HSg.out ?_
        clear hK K
        generalize wU.setCell ⟨v, 3, none⟩ (.slice (cutA (some ⟨qb, qo, none⟩) 1 fc 1) (m - 1) (fc - 1)) = wV at *
        try simp only [Act.put, List.setIfInBounds_toArray, List.set_cons_succ, List.set_cons_zero]
        refine wpAnyH_done (by kernel_rfl) ?_ _
        go_wp2_with fail
        go_meet
        exact ⟨rfl, HVg.out, HSg.out⟩
      · refine wp_runTo (some 33) rfl (.slice (some ⟨qb, qo, none⟩) m fc) wS (by have hq := HVd.out.cell (i := 3) rfl; go_simp) ?_
        refine hK _ _ HSd.out ?_
        clear hK K
        try simp only [Act.put, List.setIfInBounds_toArray, List.set_cons_succ, List.set_cons_zero]
        refine takeH 6 (some 34) (.slice (cutA (some ⟨qb, qo, none⟩) 1 fc 1) (m - 1) (fc - 1)) rfl rfl (by kernel_rfl) (by kernel_rfl) (by kernel_rfl) (fun _ _ _ h => h) rfl (fun wq hS => exec_from25 wq _ _ _ _ rfl (some ⟨qb, qo, none⟩) m fc 1 rfl rfl hmn) HSd.out ?_
        try simp only [Act.put, List.setIfInBounds_toArray, List.set_cons_succ, List.set_cons_zero]
        refine oneH 1 (by kernel_rfl) rfl rfl fun K hK => ?_
        refine wp_runTo (some 29) rfl (.slice (some ⟨qb, qo, none⟩) m fc) wS (by have hq := HVd.out.cell (i := 3) rfl; go_simp) ?_
        refine hK _ _ HSd.out ?_
        clear hK K
        try simp only [Act.put, List.setIfInBounds_toArray, List.set_cons_succ, List.set_cons_zero]
        refine takeH 2 (some 30) (.pointer (some ⟨qb, qo, none⟩)) rfl rfl (by kernel_rfl) (by kernel_rfl) (by kernel_rfl) (fun _ _ _ h => h) rfl (fun wq hS => by have hm0 : ¬ m = 0 := (by omega); have hm1 : (0 : Int) < (m : Int) := hmp; go_simp) HSd.out ?_
        try simp only [Act.put, List.setIfInBounds_toArray, List.set_cons_succ, List.set_cons_zero]
        refine takeH 3 (some 31) (.int .i64 f) rfl rfl (by kernel_rfl) (by kernel_rfl) (by kernel_rfl) (fun _ _ _ h => h) rfl (fun wq hS => by have q := HQ3.out wq hS; go_simp) HSd.out ?_
        try simp only [Act.put, List.setIfInBounds_toArray, List.set_cons_succ, List.set_cons_zero]
        refine takeH 7 (some 35) (.pointer (some ⟨v, 0, none⟩)) rfl rfl (by kernel_rfl) (by kernel_rfl) (by kernel_rfl) (fun _ _ _ h => h) rfl (fun wq hS => by go_simp) HSd.out ?_
        try simp only [Act.put, List.setIfInBounds_toArray, List.set_cons_succ, List.set_cons_zero]
        refine oneH 8 (by kernel_rfl) rfl rfl fun K hK => ?_
        refine swp_skipTo none rfl (wS.setCell ⟨v, 0, none⟩ (.int .i64 f)) (by have hq := HVd.out.cell (i := 0) rfl; have hf := HVd.out.frozen 0; go_simp) ?_
        have HSe : Hid (Only (fun k => k = v) wc (wS.setCell ⟨v, 0, none⟩ (.int .i64 f))) := Lib.hid (HSd.out.setCell (p := ⟨v, 0, none⟩) (.inl rfl) _)
        have HVe := Lib.hid (HVd.out.set 0 (.int .i64 f))
        refine hK _ _ HSe.out ?_
        clear hK K
        generalize wS.setCell ⟨v, 0, none⟩ (.int .i64 f) = wT at *
        try simp only [Act.put, List.setIfInBounds_toArray, List.set_cons_succ, List.set_cons_zero]
        refine takeH 9 (some 36) (.pointer (some ⟨v, 1, none⟩)) rfl rfl (by kernel_rfl) (by kernel_rfl) (by kernel_rfl) (fun _ _ _ h => h) rfl (fun wq hS => by go_simp) HSe.out ?_
        try simp only [Act.put, List.setIfInBounds_toArray, List.set_cons_succ, List.set_cons_zero]
        refine oneH 10 (by kernel_rfl) rfl rfl fun K hK => ?_
        refine swp_skipTo none rfl (wT.setCell ⟨v, 1, none⟩ (.int .i64 0)) (by have hq := HVe.out.cell (i := 1) rfl; have hf := HVe.out.frozen 1; go_simp) ?_
        have HSf : Hid (Only (fun k => k = v) wc (wT.setCell ⟨v, 1, none⟩ (.int .i64 0))) := Lib.hid (HSe.out.setCell (p := ⟨v, 1, none⟩) (.inl rfl) _)
        have HVf := Lib.hid (HVe.out.set 1 (.int .i64 0))
        refine hK _ _ HSf.out ?_
        clear hK K
        generalize wT.setCell ⟨v, 1, none⟩ (.int .i64 0) = wU at *
        try simp only [Act.put, List.setIfInBounds_toArray, List.set_cons_succ, List.set_cons_zero]
        refine takeH 11 (some 37) (.pointer (some ⟨v, 3, none⟩)) rfl rfl (by kernel_rfl) (by kernel_rfl) (by kernel_rfl) (fun _ _ _ h => h) rfl (fun wq hS => by go_simp) HSf.out ?_
        try simp only [Act.put, List.setIfInBounds_toArray, List.set_cons_succ, List.set_cons_zero]
        refine oneH 12 (by kernel_rfl) rfl rfl fun K hK => ?_
        refine swp_skipTo none rfl (wU.setCell ⟨v, 3, none⟩ (.slice (cutA (some ⟨qb, qo, none⟩) 1 fc 1) (m - 1) (fc - 1))) (by have hq := HVf.out.cell (i := 3) rfl; have hf := HVf.out.frozen 3; go_simp) ?_
        have HSg : Hid (Only (fun k => k = v) wc (wU.setCell ⟨v, 3, none⟩ (.slice (cutA (some ⟨qb, qo, none⟩) 1 fc 1) (m - 1) (fc - 1)))) := Lib.hid (HSf.out.setCell (p := ⟨v, 3, none⟩) (.inl rfl) _)
        have HVg := Lib.hid (HVf.out.set 3 (.slice (cutA (some ⟨qb, qo, none⟩) 1 fc 1) (m - 1) (fc - 1)))
        refine hK _ _ HSg.out ?_
        clear hK K
        generalize wU.setCell ⟨v, 3, none⟩ (.slice (cutA (some ⟨qb, qo, none⟩) 1 fc 1) (m - 1) (fc - 1)) = wV at *
        try simp only [Act.put, List.setIfInBounds_toArray, List.set_cons_succ, List.set_cons_zero]
        refine wpAnyH_done (by kernel_rfl) ?_ _
        go_wp2_with fail
        go_meet
        exact ⟨rfl, HVg.out, HSg.out⟩
    case rest =>
      obtain ⟨rfl, hv, ho⟩ := hcut
      have HBx := Lib.hid (HB3.out.trans (ho.below HB3.out.size fun k hk => by have h2 : w.heap.size < v := HVS.out; omega))
      have HVx := Lib.hid hv
      have HRx := Lib.hid (HR3.out.only ho (by have := HR3.out.lt; have h2 : w.heap.size < v := HVS.out; omega))
      clear hv ho
      go_upto_region 7 with fail
      refine wp_region_lit ?_
      refine takeL (.agg #[.int .i64 f, .int .i64 0, .int .u32 a.seq, .slice (cutA (some ⟨qb, qo, none⟩) 1 fc 1) (m - 1) (fc - 1)]) rfl (by have q := HVx.out; have q0 := q.cell (i := 0) rfl; have q1 := q.cell (i := 1) rfl; have q2 := q.cell (i := 2) rfl; have q3 := q.cell (i := 3) rfl; go_simp) ?_
      try simp only [Act.put, List.setIfInBounds_toArray, List.set_cons_succ, List.set_cons_zero]
      refine store_all (cs := #[.int .i64 f, .int .i64 0, .int .u32 a.seq, .slice (cutA (some ⟨qb, qo, none⟩) 1 fc 1) (m - 1) (fc - 1)]) HRx.out rfl info40 (at_one _ _ _ _ _ _) rfl rfl rfl ?_
      intro w5 hD hO hlD
      try simp only [Act.put, List.setIfInBounds_toArray, List.set_cons_succ, List.set_cons_zero]
      have HD := Lib.hid hD
      have HB5 := Lib.hid (HBx.out.trans (hO.below HBx.out.size fun k hk => Nat.le_of_eq hk.symm))
      clear hD hO hlD
      refine takeL (.nilIface) rfl (by go_simp) ?_
      try simp only [Act.put, List.setIfInBounds_toArray, List.set_cons_succ, List.set_cons_zero]
      refine wpList_nil ?_
      go_wp2_with fail
      refine bodyPost_ret (v := .tuple #[.agg #[.int .i64 f, .int .i64 0, .int .u32 a.seq, .slice (cutA (some ⟨qb, qo, none⟩) 1 fc 1) (m - 1) (fc - 1)], .nilIface]) (De.results_cell_tmp rfl _ _ w.heap.size 0 _ _ _ rfl rfl Tryz.underlying40 rfl info40 (HD.out.all rfl)) rfl ⟨_, rfl, ?_, HB5.out⟩
      obtain ⟨h1, h2⟩ := HT.out _ HB5.out
      exact ⟨h1, fun b o n c he => by
        obtain ⟨o2, h3⟩ := h2 b o n c he
        exact ⟨o2, m, fc, by rw [h3]⟩, fun q n c he => by
        have := HCP.out
        injection he with e1 e2 e3
        omega⟩
end

end Go.Proofs.YthlnmdihdcfphaaGreatDoor
