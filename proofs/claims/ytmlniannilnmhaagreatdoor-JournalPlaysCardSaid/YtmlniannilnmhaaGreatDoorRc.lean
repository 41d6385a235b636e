/- The reference's journal: in memory, New. -/
import Derived.Test.YtmlniannilnmhaaGreatDoorRb
namespace Go.Proofs.YtmlniannilnmhaaGreatDoor
set_option linter.unusedSimpArgs false
set_option linter.unusedVariables false
open Go.RowKit

theorem noneH {P : Program} {ops : Array Oper} {md : Region.Mode} {Q : Exit → Act → World → Prop} {S : World → Prop} {fuel : Nat} {listed : Array Bool} {a : Act} {w : World} (i : Nat) {o : Oper} (dst : Option Tmp) (hr : Region.ready md ops listed = [i]) (hi : ops[i]? = some o) (hd : o.dst = dst)
    (hw : Region.wanted o (yielded ops a.tmps) = false) (hS : S w) (h : wpAnyH P md ops Q S fuel (listed.setIfInBounds i true) (a.put dst undef) w) : wpAnyH P md ops Q S (fuel + 1) listed a w :=
  wpAnyH_all hr (by simp) fun j hj => by
    rw [List.mem_singleton.1 hj]
    subst hd
    exact wpOp_step hi fun K hK => by rw [if_neg (by rw [hw]; decide)]; exact hK _ _ ⟨hS, h⟩
theorem passR {P : Program} {ops : Array Oper} {md : Region.Mode} {Q : Exit → Act → World → Prop} {S : World → Prop} (i : Nat) {oi : Oper} (dst : Option Tmp) {fuel : Nat} {listed : Array Bool} {a : Act} {w : World} (hi : ops[i]? = some oi) (hd : oi.dst = dst)
    (hs : Region.noSelect ops = true) (hf : Region.free md ops listed i = true) (hr : (Region.ready md ops listed).contains i = true)
    (hQ : ∀ c a w, Q (.panic c) (a.put dst undef) w → Q (.panic c) a w) (hw : Region.wanted oi (yielded ops a.tmps) = false) (hS : S w)
    (h : wpAnyH P md ops Q S fuel (listed.setIfInBounds i true) (a.put dst undef) w) : wpAnyH P md ops Q S (fuel + 1) listed a w := by
  subst hd
  exact wpAnyH_take hi hs hf hr hQ (.inr ⟨hw, rfl⟩) hS h
/-- The reference's journal in memory. -/
structure Rn (W w : World) (qb q : Nat) (G : Nat → Prop) (d : De.D) (g : Pl.Gm) (a : Ja) (fv : Value) : Prop where
  rv : De.Rv W w q G d
  blk : Blk w qb [.pointer (some ⟨q, 0, none⟩), .int .i64 g.p, .int .i64 g.s, .int .i64 g.l, .int .i64 g.f, .int .i64 a.seg, .int .i64 a.off, .int .u32 a.seq, fv]
  fr : IntsAt w fv a.free
  lo : W.heap.size ≤ qb
  nG : ¬ G qb
  sep : ∀ b' o n c, fv = .slice (some ⟨b', o, none⟩) n c → W.heap.size ≤ b' ∧ b' ≠ qb ∧ ¬ G b' ∧ b' < w.heap.size
theorem Rv.below {W w w' : World} {q : Nat} {G : Nat → Prop} {d : De.D} (h : De.Rv W w q G d) (hb : Below w.heap.size w w') : De.Rv W w' q G d :=
  h.go (S := fun _ => False) (Only.of_below hb) (fun _ h => h.elim) (fun _ _ h => h)
theorem Rn.below {W w w' : World} {qb q : Nat} {G : Nat → Prop} {d : De.D} {g : Pl.Gm} {a : Ja} {fv : Value} (h : Rn W w qb q G d g a fv) (hb : Below w.heap.size w w') : Rn W w' qb q G d g a fv :=
  ⟨Rv.below h.rv hb, h.blk.below hb h.blk.lt, h.fr.below hb, h.lo, h.nG, fun b' o n c e => let ⟨h1, h2, h3, h4⟩ := h.sep b' o n c e; ⟨h1, h2, h3, Nat.lt_of_lt_of_le h4 hb.size⟩⟩
theorem Rn.dev {W w w' : World} {qb q : Nat} {G G' : Nat → Prop} {d d' : De.D} {g : Pl.Gm} {a : Ja} {fv : Value} (h : Rn W w qb q G d g a fv) (hd : De.Rv W w' q G' d') (ho : Only G w w') (hn : ∀ k, G' k → G k ∨ w.heap.size ≤ k) : Rn W w' qb q G' d' g a fv := by
  refine ⟨hd, h.blk.only ho h.nG, h.fr.onlyF ho fun b' o n c e hF => (h.sep b' o n c e).2.2.1 hF, h.lo, fun hF => ?_, fun b' o n c e => ?_⟩
  · rcases hn qb hF with h1 | h1
    · exact h.nG h1
    · have := h.blk.lt; omega
  · obtain ⟨h1, h2, h3, h4⟩ := h.sep b' o n c e
    refine ⟨h1, h2, fun hF => ?_, Nat.lt_of_lt_of_le h4 ho.size⟩
    rcases hn b' hF with h5 | h5
    · exact h3 h5
    · omega
theorem Rn.turnS {W w w' : World} {qb q : Nat} {G : Nat → Prop} {d : De.D} {g : Pl.Gm} {a a' : Ja} {fv fv' : Value} {S : Nat → Prop} (h : Rn W w qb q G d g a fv) (ho : Only S w w') (hS : ∀ k, S k → W.heap.size ≤ k) (hG : ∀ k, G k → ¬ S k)
    (hb : Blk w' qb [.pointer (some ⟨q, 0, none⟩), .int .i64 g.p, .int .i64 g.s, .int .i64 g.l, .int .i64 g.f, .int .i64 a'.seg, .int .i64 a'.off, .int .u32 a'.seq, fv']) (hf : IntsAt w' fv' a'.free)
    (hs : ∀ b' o n c, fv' = .slice (some ⟨b', o, none⟩) n c → W.heap.size ≤ b' ∧ b' ≠ qb ∧ ¬ G b' ∧ b' < w'.heap.size) : Rn W w' qb q G d g a' fv' :=
  ⟨h.rv.go ho hS hG, hb, hf, h.lo, h.nG, hs⟩
theorem Rn.cells {W w : World} {qb q : Nat} {G : Nat → Prop} {d : De.D} {g : Pl.Gm} {a : Ja} {fv : Value} (h : Rn W w qb q G d g a fv) : w.cell? ⟨qb, 0, none⟩ = some (.pointer (some ⟨q, 0, none⟩)) ∧ w.cell? ⟨qb, 1, none⟩ = some (.int .i64 g.p) ∧ w.cell? ⟨qb, 2, none⟩ = some (.int .i64 g.s) ∧ w.cell? ⟨qb, 3, none⟩ = some (.int .i64 g.l) ∧ w.cell? ⟨qb, 4, none⟩ = some (.int .i64 g.f) ∧ w.cell? ⟨qb, 5, none⟩ = some (.int .i64 a.seg) ∧ w.cell? ⟨qb, 6, none⟩ = some (.int .i64 a.off) ∧ w.cell? ⟨qb, 7, none⟩ = some (.int .u32 a.seq) ∧ w.cell? ⟨qb, 8, none⟩ = some fv :=
  ⟨h.blk.cell rfl, h.blk.cell rfl, h.blk.cell rfl, h.blk.cell rfl, h.blk.cell rfl, h.blk.cell rfl, h.blk.cell rfl, h.blk.cell rfl, h.blk.cell rfl⟩
theorem Rv.len {W w : World} {q : Nat} {G : Nat → Prop} {d : De.D} (h : De.Rv W w q G d) : ∃ sb, w.cell? ⟨q, 0, none⟩ = some (.slice (some ⟨sb, 0, none⟩) d.S.length d.S.length) := by
  obtain ⟨⟨sb, lv, rfl, hr⟩, -⟩ := h
  exact ⟨sb, hr.blk.cell rfl⟩
theorem built62 (p s l f seg off seq : Int) (q : Nat) (a : Option Addr) (n c : Nat) : Tryz.prog.built 62 [(0, .pointer (some ⟨q, 0, none⟩)), (1, .agg #[.int .i64 p, .int .i64 s, .int .i64 l, .int .i64 f]), (2, .agg #[.int .i64 seg, .int .i64 off, .int .u32 seq, .slice a n c])] = some #[.pointer (some ⟨q, 0, none⟩), .int .i64 p, .int .i64 s, .int .i64 l, .int .i64 f, .int .i64 seg, .int .i64 off, .int .u32 seq, .slice a n c] := by kernel_rfl
section
variable {W w : World}
set_option maxRecDepth 100000 in
set_option maxHeartbeats 2000000 in
theorem rnew_law {q : Nat} {G : Nat → Prop} (t : Nat) (ht : t ≤ 1024) (g : Pl.Gm) (h : g.Ok → 4 + g.s * g.l = (t : Int)) (a : Ja) (fv : Value) (hbig : a.free.length ≤ 1000000) (hi : IntsAt w fv a.free) (hrv : De.Rv W w q G (De.newD t)) :
    Calls Tryz.prog 15 #[.pointer (some ⟨q, 0, none⟩), g.v, .agg #[.int .i64 a.seg, .int .i64 a.off, .int .u32 a.seq, fv]] w fun e w' =>
      (a.good g = false ∧ e = .returned (.tuple #[.pointer none, .int .i64 1]) ∧ Below w.heap.size w w') ∨
      (a.good g = true ∧ ∃ qb tv, e = .returned (.tuple #[.pointer (some ⟨qb, 0, none⟩), .int .i64 0]) ∧ Rn W w' qb q G (De.newD t) g a tv ∧ w.heap.size ≤ qb ∧ (∀ b o n c, tv = .slice (some ⟨b, o, none⟩) n c → w.heap.size ≤ b) ∧ Below w.heap.size w w') := by
  have HRV := Lib.hid hrv
  have HI := Lib.hid hi
  obtain ⟨fa, fc, hfv⟩ := hi.form
  obtain ⟨n, hn⟩ : ∃ n, a.free.length = n := ⟨_, rfl⟩
  rw [hn] at hfv hbig
  subst hfv
  have HN := Lib.hid hn
  have HNB := Lib.hid hbig
  have HTT := Lib.hid h
  obtain ⟨gd, hgd⟩ : ∃ x, a.good g = x := ⟨_, rfl⟩
  have HGD := Lib.hid hgd
  clear hrv hi hbig hn h hgd
  go_enter Tryz.func15, Tryz.ntmps15
  go_upto_region 0 with fail
  refine wp_region_lit ?_
  refine box_g rfl rfl ?_
  try simp only [Act.put, List.setIfInBounds_toArray, List.set_cons_succ, List.set_cons_zero]
  intro w1 hV hb hl
  try simp only [Act.put, List.setIfInBounds_toArray, List.set_cons_succ, List.set_cons_zero]
  have HG1 := Lib.hid hV
  have HB1 := Lib.hid hb
  clear hV hb hl
  refine box_g rfl rfl ?_
  try simp only [Act.put, List.setIfInBounds_toArray, List.set_cons_succ, List.set_cons_zero]
  intro w2 hV hb hl
  try simp only [Act.put, List.setIfInBounds_toArray, List.set_cons_succ, List.set_cons_zero]
  have HX2 := Lib.hid hV
  have HG2 := Lib.hid (HG1.out.below hb HG1.out.lt)
  have HB2 := Lib.hid (stay HB1.out hb)
  clear hV hb hl HG1 HB1
  generalize w1.heap.size = xb at *
  refine takeL (.pointer none) rfl (by go_simp) ?_
  try simp only [Act.put, List.setIfInBounds_toArray, List.set_cons_succ, List.set_cons_zero]
  refine takeL (.int .i64 0) rfl (by go_simp) ?_
  try simp only [Act.put, List.setIfInBounds_toArray, List.set_cons_succ, List.set_cons_zero]
  refine wpList_nil ?_
  go_upto_region 1 with fail
  refine startH (fun wq => Below w2.heap.size w2 wq) (by kernel_rfl) ?_
  have HS0 : Hid (Below w2.heap.size w2 w2.drew) := Lib.hid (Below.refl _ _).drew
  generalize w2.drew = u0 at *
  refine takeH 0 (some 8) (.pointer (some ⟨q, 0, none⟩)) rfl rfl (by kernel_rfl) (by kernel_rfl) (by kernel_rfl) (fun _ _ _ h => h) rfl (fun wq hS => by go_simp) HS0.out ?_
  try simp only [Act.put, List.setIfInBounds_toArray, List.set_cons_succ, List.set_cons_zero]
  refine takeH 1 (some 9) (.bool false) rfl rfl (by kernel_rfl) (by kernel_rfl) (by kernel_rfl) (fun _ _ _ h => h) rfl (fun wq hS => by go_simp) HS0.out ?_
  try simp only [Act.put, List.setIfInBounds_toArray, List.set_cons_succ, List.set_cons_zero]
  refine takeH 2 (some 10) (.bool false) rfl rfl (by kernel_rfl) (by kernel_rfl) (by kernel_rfl) (fun _ _ _ h => h) rfl (fun wq hS => by go_simp) HS0.out ?_
  try simp only [Act.put, List.setIfInBounds_toArray, List.set_cons_succ, List.set_cons_zero]
  refine takeH 3 (some 11) (.agg #[.int .i64 g.p, .int .i64 g.s, .int .i64 g.l, .int .i64 g.f]) rfl rfl (by kernel_rfl) (by kernel_rfl) (by kernel_rfl) (fun _ _ _ h => h) rfl (fun wq hS => by have q := HG2.out.below hS HG2.out.lt; have q0 := q.cell (i := 0) rfl; have q1 := q.cell (i := 1) rfl; have q2 := q.cell (i := 2) rfl; have q3 := q.cell (i := 3) rfl; go_simp) HS0.out ?_
  try simp only [Act.put, List.setIfInBounds_toArray, List.set_cons_succ, List.set_cons_zero]
  refine takeH 4 (some 12) (.agg #[.int .i64 a.seg, .int .i64 a.off, .int .u32 a.seq, .slice fa n fc]) rfl rfl (by kernel_rfl) (by kernel_rfl) (by kernel_rfl) (fun _ _ _ h => h) rfl (fun wq hS => by have q := HX2.out.below hS HX2.out.lt; have q0 := q.cell (i := 0) rfl; have q1 := q.cell (i := 1) rfl; have q2 := q.cell (i := 2) rfl; have q3 := q.cell (i := 3) rfl; go_simp) HS0.out ?_
  try simp only [Act.put, List.setIfInBounds_toArray, List.set_cons_succ, List.set_cons_zero]
  refine oneH 5 (by kernel_rfl) rfl rfl fun K hK => ?_
  go_simp
  refine (rjgood_any g a (.slice fa n fc) n HN.out (by have := HNB.out; omega) (HI.out.below (stay HB2.out HS0.out))).mono ?_
  rintro e u1 ⟨rfl, hb⟩
  rw [HGD.out]
  have HS1 := Lib.hid (stay HS0.out hb)
  refine hK _ _ HS1.out ?_
  clear hK K hb
  try simp only [Act.put, List.setIfInBounds_toArray, List.set_cons_succ, List.set_cons_zero]
  cases gd
  · refine takeH 6 (some 14) (.bool true) rfl rfl (by kernel_rfl) (by kernel_rfl) (by kernel_rfl) (fun _ _ _ h => h) rfl (fun wq hS => by go_simp) HS1.out ?_
    try simp only [Act.put, List.setIfInBounds_toArray, List.set_cons_succ, List.set_cons_zero]
    refine takeH 7 (some 15) (.bool true) rfl rfl (by kernel_rfl) (by kernel_rfl) (by kernel_rfl) (fun _ _ _ h => h) rfl (fun wq hS => by go_simp) HS1.out ?_
    try simp only [Act.put, List.setIfInBounds_toArray, List.set_cons_succ, List.set_cons_zero]
    refine takeH 8 (some 16) (.bool true) rfl rfl (by kernel_rfl) (by kernel_rfl) (by kernel_rfl) (fun _ _ _ h => h) rfl (fun wq hS => by go_simp) HS1.out ?_
    try simp only [Act.put, List.setIfInBounds_toArray, List.set_cons_succ, List.set_cons_zero]
    refine passR 9 (some 17) rfl rfl (by kernel_rfl) (by kernel_rfl) (by kernel_rfl) (fun _ _ _ h => h) rfl HS1.out ?_
    try simp only [Act.put, List.setIfInBounds_toArray, List.set_cons_succ, List.set_cons_zero]
    refine passR 10 (some 18) rfl rfl (by kernel_rfl) (by kernel_rfl) (by kernel_rfl) (fun _ _ _ h => h) rfl HS1.out ?_
    try simp only [Act.put, List.setIfInBounds_toArray, List.set_cons_succ, List.set_cons_zero]
    refine passR 11 (some 19) rfl rfl (by kernel_rfl) (by kernel_rfl) (by kernel_rfl) (fun _ _ _ h => h) rfl HS1.out ?_
    try simp only [Act.put, List.setIfInBounds_toArray, List.set_cons_succ, List.set_cons_zero]
    refine passR 12 (some 20) rfl rfl (by kernel_rfl) (by kernel_rfl) (by kernel_rfl) (fun _ _ _ h => h) rfl HS1.out ?_
    try simp only [Act.put, List.setIfInBounds_toArray, List.set_cons_succ, List.set_cons_zero]
    refine passR 13 (some 21) rfl rfl (by kernel_rfl) (by kernel_rfl) (by kernel_rfl) (fun _ _ _ h => h) rfl HS1.out ?_
    try simp only [Act.put, List.setIfInBounds_toArray, List.set_cons_succ, List.set_cons_zero]
    refine passR 14 (some 22) rfl rfl (by kernel_rfl) (by kernel_rfl) (by kernel_rfl) (fun _ _ _ h => h) rfl HS1.out ?_
    try simp only [Act.put, List.setIfInBounds_toArray, List.set_cons_succ, List.set_cons_zero]
    refine noneH 15 (some 23) (by kernel_rfl) rfl rfl rfl HS1.out ?_
    try simp only [Act.put, List.setIfInBounds_toArray, List.set_cons_succ, List.set_cons_zero]
    refine passR 16 (some 24) rfl rfl (by kernel_rfl) (by kernel_rfl) (by kernel_rfl) (fun _ _ _ h => h) rfl HS1.out ?_
    try simp only [Act.put, List.setIfInBounds_toArray, List.set_cons_succ, List.set_cons_zero]
    refine passR 17 (some 25) rfl rfl (by kernel_rfl) (by kernel_rfl) (by kernel_rfl) (fun _ _ _ h => h) rfl HS1.out ?_
    try simp only [Act.put, List.setIfInBounds_toArray, List.set_cons_succ, List.set_cons_zero]
    refine takeH 18 (some 26) (.bool true) rfl rfl (by kernel_rfl) (by kernel_rfl) (by kernel_rfl) (fun _ _ _ h => h) rfl (fun wq hS => by go_simp) HS1.out ?_
    try simp only [Act.put, List.setIfInBounds_toArray, List.set_cons_succ, List.set_cons_zero]
    refine wpAnyH_done (by kernel_rfl) ?_ _
    have HBZ := Lib.hid (stay HB2.out HS1.out)
    go_wp2_with fail
    first | go_ret2 | go_ret
    exact .inl ⟨HGD.out, rfl, HBZ.out⟩
  · refine takeH 6 (some 14) (.bool false) rfl rfl (by kernel_rfl) (by kernel_rfl) (by kernel_rfl) (fun _ _ _ h => h) rfl (fun wq hS => by go_simp) HS1.out ?_
    try simp only [Act.put, List.setIfInBounds_toArray, List.set_cons_succ, List.set_cons_zero]
    refine takeH 7 (some 15) (.bool false) rfl rfl (by kernel_rfl) (by kernel_rfl) (by kernel_rfl) (fun _ _ _ h => h) rfl (fun wq hS => by go_simp) HS1.out ?_
    try simp only [Act.put, List.setIfInBounds_toArray, List.set_cons_succ, List.set_cons_zero]
    refine takeH 8 (some 16) (.bool false) rfl rfl (by kernel_rfl) (by kernel_rfl) (by kernel_rfl) (fun _ _ _ h => h) rfl (fun wq hS => by go_simp) HS1.out ?_
    try simp only [Act.put, List.setIfInBounds_toArray, List.set_cons_succ, List.set_cons_zero]
    have hrl := Rv.len HRV.out
    obtain ⟨sb, hsb⟩ := hrl
    rw [newD_len] at hsb
    have HSB := Lib.hid hsb
    have HQL : Hid (q < w.heap.size) := Lib.hid (lt_of_cell hsb)
    clear hsb
    refine takeH 9 (some 17) (.pointer (some ⟨q, 0, none⟩)) rfl rfl (by kernel_rfl) (by kernel_rfl) (by kernel_rfl) (fun _ _ _ h => h) rfl (fun wq hS => by go_simp) HS1.out ?_
    try simp only [Act.put, List.setIfInBounds_toArray, List.set_cons_succ, List.set_cons_zero]
    refine takeH 10 (some 18) (.pointer (some ⟨q, 0, none⟩)) rfl rfl (by kernel_rfl) (by kernel_rfl) (by kernel_rfl) (fun _ _ _ h => h) rfl (fun wq hS => by go_simp) HS1.out ?_
    try simp only [Act.put, List.setIfInBounds_toArray, List.set_cons_succ, List.set_cons_zero]
    refine takeH 11 (some 19) (.pointer (some ⟨q, 0, none⟩)) rfl rfl (by kernel_rfl) (by kernel_rfl) (by kernel_rfl) (fun _ _ _ h => h) rfl (fun wq hS => by go_simp) HS1.out ?_
    try simp only [Act.put, List.setIfInBounds_toArray, List.set_cons_succ, List.set_cons_zero]
    refine takeH 12 (some 20) (.slice (some ⟨sb, 0, none⟩) t t) rfl rfl (by kernel_rfl) (by kernel_rfl) (by kernel_rfl) (fun _ _ _ h => h) rfl (fun wq hS => by have q := ((stay HB2.out hS).cell (p := ⟨q, 0, none⟩) HQL.out).trans HSB.out; go_simp) HS1.out ?_
    try simp only [Act.put, List.setIfInBounds_toArray, List.set_cons_succ, List.set_cons_zero]
    refine takeH 13 (some 21) (.int .i64 (t : Int)) rfl rfl (by kernel_rfl) (by kernel_rfl) (by kernel_rfl) (fun _ _ _ h => h) rfl (fun wq hS => by go_simp) HS1.out ?_
    try simp only [Act.put, List.setIfInBounds_toArray, List.set_cons_succ, List.set_cons_zero]
    refine takeH 14 (some 22) (.agg #[.int .i64 g.p, .int .i64 g.s, .int .i64 g.l, .int .i64 g.f]) rfl rfl (by kernel_rfl) (by kernel_rfl) (by kernel_rfl) (fun _ _ _ h => h) rfl (fun wq hS => by have q := HG2.out.below hS HG2.out.lt; have q0 := q.cell (i := 0) rfl; have q1 := q.cell (i := 1) rfl; have q2 := q.cell (i := 2) rfl; have q3 := q.cell (i := 3) rfl; go_simp) HS1.out ?_
    try simp only [Act.put, List.setIfInBounds_toArray, List.set_cons_succ, List.set_cons_zero]
    refine oneH 15 (by kernel_rfl) rfl rfl fun K hK => ?_
    go_simp
    refine (rof_any g _).mono ?_
    rintro e u2 ⟨x, y, rfl, hb⟩
    have HS2 := Lib.hid (stay HS1.out hb)
    have htt : tot g = (t : Int) := by
      have hok := (Ja.good_parts HGD.out).1
      unfold tot
      rw [if_pos hok]
      exact HTT.out hok
    rw [htt]
    refine hK _ _ HS2.out ?_
    clear hK K hb htt
    try simp only [Act.put, List.setIfInBounds_toArray, List.set_cons_succ, List.set_cons_zero]
    refine takeH 16 (some 24) (.int .i64 (t : Int)) rfl rfl (by kernel_rfl) (by kernel_rfl) (by kernel_rfl) (fun _ _ _ h => h) rfl (fun wq hS => by have z := field32m x (t : Int) y wq; go_simp) HS2.out ?_
    try simp only [Act.put, List.setIfInBounds_toArray, List.set_cons_succ, List.set_cons_zero]
    refine takeH 17 (some 25) (.bool false) rfl rfl (by kernel_rfl) (by kernel_rfl) (by kernel_rfl) (fun _ _ _ h => h) rfl (fun wq hS => by go_simp) HS2.out ?_
    try simp only [Act.put, List.setIfInBounds_toArray, List.set_cons_succ, List.set_cons_zero]
    refine takeH 18 (some 26) (.bool false) rfl rfl (by kernel_rfl) (by kernel_rfl) (by kernel_rfl) (fun _ _ _ h => h) rfl (fun wq hS => by go_simp) HS2.out ?_
    try simp only [Act.put, List.setIfInBounds_toArray, List.set_cons_succ, List.set_cons_zero]
    refine wpAnyH_done (by kernel_rfl) ?_ _
    have HB3 := Lib.hid (stay HB2.out HS2.out)
    have HG3 := Lib.hid (HG2.out.below HS2.out HG2.out.lt)
    have HX3 := Lib.hid (HX2.out.below HS2.out HX2.out.lt)
    clear HS0 HS1 HS2 HG2 HX2 HB2
    go_upto_region 3 with fail
    refine startH (fun wq => Below u2.heap.size u2 wq) (by kernel_rfl) ?_
    have HS0 : Hid (Below u2.heap.size u2 u2.drew) := Lib.hid (Below.refl _ _).drew
    generalize u2.drew = u3 at *
    refine takeH 0 (some 27) (.pointer (some ⟨q, 0, none⟩)) rfl rfl (by kernel_rfl) (by kernel_rfl) (by kernel_rfl) (fun _ _ _ h => h) rfl (fun wq hS => by go_simp) HS0.out ?_
    try simp only [Act.put, List.setIfInBounds_toArray, List.set_cons_succ, List.set_cons_zero]
    refine takeH 1 (some 28) (.agg #[.int .i64 g.p, .int .i64 g.s, .int .i64 g.l, .int .i64 g.f]) rfl rfl (by kernel_rfl) (by kernel_rfl) (by kernel_rfl) (fun _ _ _ h => h) rfl (fun wq hS => by have q := HG3.out.below hS HG3.out.lt; have q0 := q.cell (i := 0) rfl; have q1 := q.cell (i := 1) rfl; have q2 := q.cell (i := 2) rfl; have q3 := q.cell (i := 3) rfl; go_simp) HS0.out ?_
    try simp only [Act.put, List.setIfInBounds_toArray, List.set_cons_succ, List.set_cons_zero]
    refine takeH 2 (some 29) (.agg #[.int .i64 a.seg, .int .i64 a.off, .int .u32 a.seq, .slice fa n fc]) rfl rfl (by kernel_rfl) (by kernel_rfl) (by kernel_rfl) (fun _ _ _ h => h) rfl (fun wq hS => by have q := HX3.out.below hS HX3.out.lt; have q0 := q.cell (i := 0) rfl; have q1 := q.cell (i := 1) rfl; have q2 := q.cell (i := 2) rfl; have q3 := q.cell (i := 3) rfl; go_simp) HS0.out ?_
    try simp only [Act.put, List.setIfInBounds_toArray, List.set_cons_succ, List.set_cons_zero]
    refine oneH 3 (by kernel_rfl) rfl rfl fun K hK => ?_
    go_simp
    refine (rcopy_any a (.slice fa n fc) (by rw [HN.out]; exact HNB.out) (HI.out.below (stay HB3.out HS0.out))).mono ?_
    rintro e u4 ⟨tv, rfl, ho, hb⟩
    have HS1 := Lib.hid (stay HS0.out hb)
    have HO := Lib.hid ho
    have HU : Hid (w.heap.size ≤ u3.heap.size) := Lib.hid (Nat.le_trans HB3.out.size HS0.out.size)
    obtain ⟨ta, tc, htv⟩ := ho.ints.form
    rw [HN.out] at htv
    subst htv
    refine hK _ _ HS1.out ?_
    clear hK K hb ho
    try simp only [Act.put, List.setIfInBounds_toArray, List.set_cons_succ, List.set_cons_zero]
    refine takeH 4 (some 31) (.agg #[.pointer (some ⟨q, 0, none⟩), .int .i64 g.p, .int .i64 g.s, .int .i64 g.l, .int .i64 g.f, .int .i64 a.seg, .int .i64 a.off, .int .u32 a.seq, .slice ta n tc]) rfl rfl (by kernel_rfl) (by kernel_rfl) (by kernel_rfl) (fun _ _ _ h => h) rfl (fun wq hS => by exact exec_build _ _ _ _ 62 _ rfl #[(0, .pointer (some ⟨q, 0, none⟩)), (1, .agg #[.int .i64 g.p, .int .i64 g.s, .int .i64 g.l, .int .i64 g.f]), (2, .agg #[.int .i64 a.seg, .int .i64 a.off, .int .u32 a.seq, .slice ta n tc])] (by simp only [List.map_toArray, List.map_cons, List.map_nil]; rfl) _ (run_build _ 62 _ _ (built62 _ _ _ _ _ _ _ _ _ _ _))) HS1.out ?_
    try simp only [Act.put, List.setIfInBounds_toArray, List.set_cons_succ, List.set_cons_zero]
    refine oneH 5 (by kernel_rfl) rfl rfl fun K hK => ?_
    refine wp_runTo (some 32) rfl (.pointer (some ⟨u4.heap.size, 0, none⟩)) (u4.alloc (.cells #[.pointer (some ⟨q, 0, none⟩), .int .i64 g.p, .int .i64 g.s, .int .i64 g.l, .int .i64 g.f, .int .i64 a.seg, .int .i64 a.off, .int .u32 a.seq, .slice ta n tc] 62)) (by go_simp) ?_
    have hbl := alloc_bel u4 (.cells #[.pointer (some ⟨q, 0, none⟩), .int .i64 g.p, .int .i64 g.s, .int .i64 g.l, .int .i64 g.f, .int .i64 a.seg, .int .i64 a.off, .int .u32 a.seq, .slice ta n tc] 62)
    have HS2 := Lib.hid (stay HS1.out hbl)
    have HBK := Lib.hid (Blk.new u4 #[.pointer (some ⟨q, 0, none⟩), .int .i64 g.p, .int .i64 g.s, .int .i64 g.l, .int .i64 g.f, .int .i64 a.seg, .int .i64 a.off, .int .u32 a.seq, .slice ta n tc] 62)
    have HO2 := Lib.hid (HO.out.below hbl)
    have HOL : Hid (∀ b o m c, Value.slice ta n tc = .slice (some ⟨b, o, none⟩) m c → w.heap.size ≤ b ∧ b < u4.heap.size) := Lib.hid fun b o m c e => by
      have := HO.out.lt b (by rw [e]; rfl)
      have := HU.out
      omega
    have HU4 : Hid (w.heap.size ≤ u4.heap.size) := Lib.hid (Nat.le_trans HB3.out.size HS1.out.size)
    have HUA : Hid (u4.heap.size < (u4.alloc (.cells #[.pointer (some ⟨q, 0, none⟩), .int .i64 g.p, .int .i64 g.s, .int .i64 g.l, .int .i64 g.f, .int .i64 a.seg, .int .i64 a.off, .int .u32 a.seq, .slice ta n tc] 62)).heap.size) := Lib.hid (by simp)
    refine hK _ _ HS2.out ?_
    clear hK K hbl
    generalize u4.alloc (.cells #[.pointer (some ⟨q, 0, none⟩), .int .i64 g.p, .int .i64 g.s, .int .i64 g.l, .int .i64 g.f, .int .i64 a.seg, .int .i64 a.off, .int .u32 a.seq, .slice ta n tc] 62) = u5 at *
    generalize u4.heap.size = qb at *
    try simp only [Act.put, List.setIfInBounds_toArray, List.set_cons_succ, List.set_cons_zero]
    refine takeH 6 (some 6) (.pointer (some ⟨qb, 0, none⟩)) rfl rfl (by kernel_rfl) (by kernel_rfl) (by kernel_rfl) (fun _ _ _ h => h) rfl (fun wq hS => by go_simp) HS2.out ?_
    try simp only [Act.put, List.setIfInBounds_toArray, List.set_cons_succ, List.set_cons_zero]
    refine takeH 7 (some 7) (.int .i64 0) rfl rfl (by kernel_rfl) (by kernel_rfl) (by kernel_rfl) (fun _ _ _ h => h) rfl (fun wq hS => by go_simp) HS2.out ?_
    try simp only [Act.put, List.setIfInBounds_toArray, List.set_cons_succ, List.set_cons_zero]
    refine wpAnyH_done (by kernel_rfl) ?_ _
    have HBZ := Lib.hid (stay HB3.out HS2.out)
    have HWW : Hid (W.heap.size ≤ w.heap.size) := Lib.hid HRV.out.2.size
    have HRN : Hid (Rn W u5 qb q G (De.newD t) g a (.slice ta n tc)) := Lib.hid ⟨Rv.below HRV.out HBZ.out, HBK.out, HO2.out.ints, Nat.le_trans HWW.out HU4.out, fun hG => by have := (HRV.out.lt _ hG).2; have := HU4.out; omega, fun b' o m c e => by
      have h1 := HOL.out b' o m c e
      have h2 := HUA.out
      have h3 := HWW.out
      exact ⟨by omega, by omega, fun hG => by have := (HRV.out.lt _ hG).2; omega, by omega⟩⟩
    go_wp2_with fail
    first | go_ret2 | go_ret
    exact .inr ⟨HGD.out, _, rfl, _, HRN.out, HU4.out, fun b o m c e => (HOL.out b o m c e).1, HBZ.out⟩
end

end Go.Proofs.YtmlniannilnmhaaGreatDoor
