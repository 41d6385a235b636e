/- The reference's journal: Put. -/
import Derived.Test.YtmlniannilnmhaaGreatDoorRc
namespace Go.Proofs.YtmlniannilnmhaaGreatDoor
set_option linter.unusedSimpArgs false
set_option linter.unusedVariables false
open Go.RowKit
open De (exec_load_at)

/-- Where the reference's write is. -/
structure Rst (W w wr : World) (qb q : Nat) (G Gk : Nat → Prop) (d dk : De.D) (g : Pl.Gm) (a : Ja) (fv : Value) (X : List (List Int)) (first : Int) (k : Nat) : Prop where
  rn : Rn W wr qb q Gk dk g a fv
  on : Only G w wr
  nw : ∀ j, Gk j → G j ∨ w.heap.size ≤ j
  S : dk.S.length = d.S.length
  T : dk.T ≤ d.T + k
  L : dk.L.length ≤ d.L.length + k
  eq : wrs d first X = wrs dk (first + k) (X.drop k)
section
variable {W w wr w' : World} {qb q : Nat} {G Gk G' : Nat → Prop} {d dk d' : De.D} {g : Pl.Gm} {a : Ja} {fv : Value} {X : List (List Int)} {first : Int} {k : Nat}
theorem Rst.next (h : Rst W w wr qb q G Gk d dk g a fv X first k) {x : List Int} (hx : X[k]? = some x) (he : dk.writeE (first + k) = 0) (hd : De.Rv W w' q G' (dk.write (first + k) (u8s x).toArray)) (ho : Only Gk wr w') (hn : ∀ j, G' j → Gk j ∨ wr.heap.size ≤ j) : Rst W w w' qb q G G' d (dk.write (first + k) (u8s x).toArray) g a fv X first (k + 1) := by
  refine ⟨h.rn.dev hd ho hn, h.on.then ho h.nw, fun j hj => ?_, by rw [write_len, h.S], ?_, ?_, ?_⟩
  · rcases hn j hj with h1 | h1
    · exact h.nw j h1
    · exact .inr (Nat.le_trans h.on.size h1)
  · have := write_T dk (first + k) (u8s x).toArray; have := h.T; omega
  · have := write_L dk (first + k) (u8s x).toArray; have := h.L; omega
  · rw [h.eq, List.drop_eq_getElem_cons (List.getElem?_eq_some_iff.1 hx).1, (List.getElem?_eq_some_iff.1 hx).2]
    simp only [wrs]
    rw [if_pos he, Int.add_assoc]
    rfl
end
theorem laid_one (a b : Option Addr) (n m c e : Nat) (x : Bool) : ∀ v ∈ (#[.slice a n c, .slice b m e, .bool x] : Array Value), v.oneCell' = true := fun v hv => by
  simp only [List.mem_toArray, List.mem_cons, List.not_mem_nil, or_false] at hv
  rcases hv with rfl | rfl | rfl <;> rfl
/-- What the reference's Put leaves. -/
def RPut (W w : World) (qb q : Nat) (G : Nat → Prop) (fv : Value) (g : Pl.Gm) (p : Pr) (pv : Value) (w' : World) : Prop :=
  ∃ G' fv', OwnN w' w.heap.size pv p.pl ∧ Rn W w' qb q G' p.d g p.a fv' ∧ Only (fun k => G k ∨ k = qb) w w' ∧ (∀ k, G' k → G k ∨ w.heap.size ≤ k) ∧ (Src fv fv' ∨ ∀ b o n c, fv' = .slice (some ⟨b, o, none⟩) n c → w.heap.size ≤ b)
section
variable {W w : World} {qb q : Nat} {G : Nat → Prop} {d : De.D} {g : Pl.Gm} {a : Ja} {fv : Value}
theorem RPut.same (h : Rn W w qb q G d g a fv) {w' : World} (hb : Below w.heap.size w w') (n : Int) : RPut W w qb q G fv g ⟨n, [], a, d⟩ (.slice none 0 0) w' :=
  ⟨G, fv, OwnN.nil _ _, h.below hb, Only.of_below hb, fun k hk => .inl hk, .inl (Src.refl _)⟩
/-- Where the next group goes, in memory. -/
def NextAt (w0 wx : World) (g : Pl.Gm) (a : Ja) (n : Nat) (ab : Nat) (ok : Bool) (a1 : Ja) (tv : Value) : Prop :=
  w0.heap.size ≤ ab ∧ Blk wx ab [.int .i64 a1.seg, .int .i64 a1.off, .int .u32 a1.seq, tv] ∧ ((ok = false ∧ nextP g a n = none) ∨ (ok = true ∧ nextP g a n = some a1 ∧ IntsAt wx tv a1.free ∧ (∀ b o n c, tv = .slice (some ⟨b, o, none⟩) n c → w0.heap.size ≤ b ∧ b < wx.heap.size ∧ b ≠ ab) ∧ ∀ q n c, tv = .slice q n c → n ≤ c))
set_option maxRecDepth 100000 in
set_option maxHeartbeats 4000000 in
theorem rput_any (h : Rn W w qb q G d g a fv) (hgood : a.good g = true) (hseq : Seq32 a.seq) (htot : 4 + g.s * g.l ≤ (d.S.length : Int)) (l : List (It × Value)) (L : List It) (hL : l.map (·.1) = L) (sv : Value) (hlen : l.length ≤ 1000) (hi : ItemsAt w sv l) (hit : ∀ w', Only G w w' → ItemsAt w' sv l)
    (hS : d.S.length ≤ 1024) (hT : d.T ≤ 800000) (hLn : d.L.length ≤ 800000) : Calls Tryz.prog 21 #[.pointer (some ⟨qb, 0, none⟩), sv] w fun e w' => ∃ pv, e = .returned (.tuple #[pv, .int .i64 (jput g a d L).e]) ∧ RPut W w qb q G fv g (jput g a d L) pv w' := by
  have HR := Lib.hid h
  have HG := Lib.hid hgood
  have HLY := Lib.hid (rlay_gen l L hL a.seq hseq sv (by omega))
  have HPG := Lib.hid (rparts_of l L hL sv (fun w h => by rw [← hL]; exact rgoodG_any l l.length rfl sv (by omega) w h))
  have HIT := Lib.hid hit
  have HI := Lib.hid hi
  have HLL := Lib.hid hL
  have HLE := Lib.hid hlen
  have HGP := Lib.hid (Ja.good_parts hgood)
  have HTOT := Lib.hid htot
  have HBD : Hid (d.S.length ≤ 1024 ∧ d.T ≤ 800000 ∧ d.L.length ≤ 800000) := Lib.hid ⟨hS, hT, hLn⟩
  have HSZ := Lib.hid fun k hk => (h.rv.lt k hk).2
  have HQB := Lib.hid h.blk.lt
  have HWZ := Lib.hid h.rv.2.size
  obtain ⟨p, hp⟩ : ∃ p, jput g a d L = p := ⟨_, rfl⟩
  have HP := Lib.hid hp
  rw [hp]
  obtain ⟨sa, sc, hsv⟩ := items_one hi
  obtain ⟨m, hm⟩ : ∃ m, l.length = m := ⟨_, rfl⟩
  rw [hm] at hsv
  subst hsv
  have HM := Lib.hid hm
  clear h hgood hseq htot hL hlen hi hit hS hT hLn hp hm
  go_enter Tryz.func21, Tryz.ntmps21
  go_upto_region 1 with fail
  refine wp_region_lit ?_
  refine takeL (.pointer (some ⟨qb, 0, none⟩)) rfl (by go_simp) ?_
  try simp only [Act.put, List.setIfInBounds_toArray, List.set_cons_succ, List.set_cons_zero]
  refine takeL (.pointer (some ⟨qb, 0, none⟩)) rfl (by go_simp) ?_
  try simp only [Act.put, List.setIfInBounds_toArray, List.set_cons_succ, List.set_cons_zero]
  refine takeL (.pointer (some ⟨qb, 5, none⟩)) rfl (by go_simp) ?_
  try simp only [Act.put, List.setIfInBounds_toArray, List.set_cons_succ, List.set_cons_zero]
  refine takeL (.pointer (some ⟨qb, 7, none⟩)) rfl (by go_simp) ?_
  try simp only [Act.put, List.setIfInBounds_toArray, List.set_cons_succ, List.set_cons_zero]
  refine takeL (.int .u32 a.seq) rfl (by obtain ⟨c0, c1, c2, c3, c4, c5, c6, c7, c8⟩ := HR.out.cells; go_simp) ?_
  try simp only [Act.put, List.setIfInBounds_toArray, List.set_cons_succ, List.set_cons_zero]
  refine takeL (.slice sa m sc) rfl (by go_simp) ?_
  try simp only [Act.put, List.setIfInBounds_toArray, List.set_cons_succ, List.set_cons_zero]
  refine wpList_op rfl fun K hK => ?_
  go_simp
  refine (HLY.out _ HI.out).mono ?_
  rintro e w1 ⟨s7, s8, rfl, ht⟩
  have HT := Lib.hid ht
  obtain ⟨a7, c7', hv7, -⟩ := ht.s.len
  obtain ⟨a8, c8', hv8⟩ := ht.a.ints.form
  obtain ⟨N, hN⟩ : ∃ N, (layR a.seq L).1.length = N := ⟨_, rfl⟩
  obtain ⟨n8, hn8⟩ : ∃ n, (layR a.seq L).2.length = n := ⟨_, rfl⟩
  rw [hN] at hv7
  rw [hn8] at hv8
  have HNN := Lib.hid hN
  have HN8 := Lib.hid hn8
  subst hv7
  subst hv8
  clear ht hN hn8
  refine hK _ _ ?_
  clear hK K
  try simp only [Act.put, List.setIfInBounds_toArray, List.set_cons_succ, List.set_cons_zero]
  refine alloc_g zero121 rfl ?_
  intro w2 hA hb hl
  try simp only [Act.put, List.setIfInBounds_toArray, List.set_cons_succ, List.set_cons_zero]
  refine store_all (cs := #[.slice a7 N c7', .slice a8 n8 c8', .bool (mayBe L)]) hA rfl info121 (laid_one _ _ _ _ _ _ _) rfl rfl rfl ?_
  intro w3 hD hO hlD
  try simp only [Act.put, List.setIfInBounds_toArray, List.set_cons_succ, List.set_cons_zero]
  have hbb : Below w1.heap.size w1 w3 := hb.trans (hO.below hb.size fun k hk => Nat.le_of_eq hk.symm)
  have HL3 := Lib.hid hD
  have HT3 := Lib.hid (HT.out.below hbb)
  have HR3 := Lib.hid (HR.out.below HT3.out.b)
  have HLB : Hid (w.heap.size ≤ w1.heap.size ∧ w1.heap.size < w3.heap.size) := Lib.hid ⟨HT.out.b.size, by omega⟩
  generalize w1.heap.size = lb at *
  clear hA hb hl hD hO hlD hbb HT
  refine wpList_nil ?_
  cases hmb : mayBe L
  · have hno : laid g a L = false := by unfold laid; rw [hmb]; rfl
    rw [hmb] at HL3
    clear hmb
    go_upto_region 2 with fail
    refine startH (fun wq => Below w3.heap.size w3 wq) (by kernel_rfl) ?_
    have HS0 : Hid (Below w3.heap.size w3 w3.drew) := Lib.hid (Below.refl _ _).drew
    generalize w3.drew = u0 at *
    refine takeH 0 (some 23) (.pointer (some ⟨lb, 2, none⟩)) rfl rfl (by kernel_rfl) (by kernel_rfl) (by kernel_rfl) (fun _ _ _ h => h) rfl (fun wq hS => by go_simp) HS0.out ?_
    try simp only [Act.put, List.setIfInBounds_toArray, List.set_cons_succ, List.set_cons_zero]
    refine takeH 1 (some 24) (.bool false) rfl rfl (by kernel_rfl) (by kernel_rfl) (by kernel_rfl) (fun _ _ _ h => h) rfl (fun wq hS => by have q := (HL3.out.below hS HL3.out.lt).cell (i := 2) rfl; go_simp) HS0.out ?_
    try simp only [Act.put, List.setIfInBounds_toArray, List.set_cons_succ, List.set_cons_zero]
    refine takeH 2 (some 25) (.bool true) rfl rfl (by kernel_rfl) (by kernel_rfl) (by kernel_rfl) (fun _ _ _ h => h) rfl (fun wq hS => by go_simp) HS0.out ?_
    try simp only [Act.put, List.setIfInBounds_toArray, List.set_cons_succ, List.set_cons_zero]
    refine takeH 3 (some 26) (.bool true) rfl rfl (by kernel_rfl) (by kernel_rfl) (by kernel_rfl) (fun _ _ _ h => h) rfl (fun wq hS => by go_simp) HS0.out ?_
    try simp only [Act.put, List.setIfInBounds_toArray, List.set_cons_succ, List.set_cons_zero]
    refine passR 4 (some 27) rfl rfl (by kernel_rfl) (by kernel_rfl) (by kernel_rfl) (fun _ _ _ h => h) rfl HS0.out ?_
    try simp only [Act.put, List.setIfInBounds_toArray, List.set_cons_succ, List.set_cons_zero]
    refine passR 5 (some 28) rfl rfl (by kernel_rfl) (by kernel_rfl) (by kernel_rfl) (fun _ _ _ h => h) rfl HS0.out ?_
    try simp only [Act.put, List.setIfInBounds_toArray, List.set_cons_succ, List.set_cons_zero]
    refine passR 6 (some 29) rfl rfl (by kernel_rfl) (by kernel_rfl) (by kernel_rfl) (fun _ _ _ h => h) rfl HS0.out ?_
    try simp only [Act.put, List.setIfInBounds_toArray, List.set_cons_succ, List.set_cons_zero]
    refine passR 7 (some 30) rfl rfl (by kernel_rfl) (by kernel_rfl) (by kernel_rfl) (fun _ _ _ h => h) rfl HS0.out ?_
    try simp only [Act.put, List.setIfInBounds_toArray, List.set_cons_succ, List.set_cons_zero]
    refine passR 8 (some 31) rfl rfl (by kernel_rfl) (by kernel_rfl) (by kernel_rfl) (fun _ _ _ h => h) rfl HS0.out ?_
    try simp only [Act.put, List.setIfInBounds_toArray, List.set_cons_succ, List.set_cons_zero]
    refine passR 9 (some 32) rfl rfl (by kernel_rfl) (by kernel_rfl) (by kernel_rfl) (fun _ _ _ h => h) rfl HS0.out ?_
    try simp only [Act.put, List.setIfInBounds_toArray, List.set_cons_succ, List.set_cons_zero]
    refine passR 10 (some 33) rfl rfl (by kernel_rfl) (by kernel_rfl) (by kernel_rfl) (fun _ _ _ h => h) rfl HS0.out ?_
    try simp only [Act.put, List.setIfInBounds_toArray, List.set_cons_succ, List.set_cons_zero]
    refine passR 11 (some 34) rfl rfl (by kernel_rfl) (by kernel_rfl) (by kernel_rfl) (fun _ _ _ h => h) rfl HS0.out ?_
    try simp only [Act.put, List.setIfInBounds_toArray, List.set_cons_succ, List.set_cons_zero]
    refine passR 12 (some 35) rfl rfl (by kernel_rfl) (by kernel_rfl) (by kernel_rfl) (fun _ _ _ h => h) rfl HS0.out ?_
    try simp only [Act.put, List.setIfInBounds_toArray, List.set_cons_succ, List.set_cons_zero]
    refine takeH 13 (some 36) (.bool true) rfl rfl (by kernel_rfl) (by kernel_rfl) (by kernel_rfl) (fun _ _ _ h => h) rfl (fun wq hS => by go_simp) HS0.out ?_
    try simp only [Act.put, List.setIfInBounds_toArray, List.set_cons_succ, List.set_cons_zero]
    refine wpAnyH_done (by kernel_rfl) ?_ _
    have HBZ := Lib.hid (stay HT3.out.b HS0.out)
    go_wp2_with fail
    first | go_ret2 | go_ret
    rw [← HP.out, jput_no hno]
    exact ⟨_, rfl, RPut.same HR.out HBZ.out 1⟩
  rw [hmb] at HL3
  have hlr : layR a.seq L = lay2 a.seq L := by unfold layR; rw [hmb]; rfl
  rw [hlr] at HT3 HNN HN8
  clear hlr
  by_cases hgl : g.l < (N : Int)
  · have hno : laid g a L = false := by unfold laid; rw [hmb, HNN.out, Bool.true_and]; exact decide_eq_false (by omega)
    have dg : decide (g.l < (N : Int)) = true := decide_eq_true hgl
    clear hmb hgl
    go_upto_region 2 with fail
    refine startH (fun wq => Below w3.heap.size w3 wq) (by kernel_rfl) ?_
    have HS0 : Hid (Below w3.heap.size w3 w3.drew) := Lib.hid (Below.refl _ _).drew
    generalize w3.drew = u0 at *
    refine takeH 0 (some 23) (.pointer (some ⟨lb, 2, none⟩)) rfl rfl (by kernel_rfl) (by kernel_rfl) (by kernel_rfl) (fun _ _ _ h => h) rfl (fun wq hS => by go_simp) HS0.out ?_
    try simp only [Act.put, List.setIfInBounds_toArray, List.set_cons_succ, List.set_cons_zero]
    refine takeH 1 (some 24) (.bool true) rfl rfl (by kernel_rfl) (by kernel_rfl) (by kernel_rfl) (fun _ _ _ h => h) rfl (fun wq hS => by have q := (HL3.out.below hS HL3.out.lt).cell (i := 2) rfl; go_simp) HS0.out ?_
    try simp only [Act.put, List.setIfInBounds_toArray, List.set_cons_succ, List.set_cons_zero]
    refine takeH 2 (some 25) (.bool false) rfl rfl (by kernel_rfl) (by kernel_rfl) (by kernel_rfl) (fun _ _ _ h => h) rfl (fun wq hS => by go_simp) HS0.out ?_
    try simp only [Act.put, List.setIfInBounds_toArray, List.set_cons_succ, List.set_cons_zero]
    refine takeH 3 (some 26) (.bool false) rfl rfl (by kernel_rfl) (by kernel_rfl) (by kernel_rfl) (fun _ _ _ h => h) rfl (fun wq hS => by go_simp) HS0.out ?_
    try simp only [Act.put, List.setIfInBounds_toArray, List.set_cons_succ, List.set_cons_zero]
    refine takeH 4 (some 27) (.pointer (some ⟨lb, 0, none⟩)) rfl rfl (by kernel_rfl) (by kernel_rfl) (by kernel_rfl) (fun _ _ _ h => h) rfl (fun wq hS => by go_simp) HS0.out ?_
    try simp only [Act.put, List.setIfInBounds_toArray, List.set_cons_succ, List.set_cons_zero]
    refine takeH 5 (some 28) (.slice a7 N c7') rfl rfl (by kernel_rfl) (by kernel_rfl) (by kernel_rfl) (fun _ _ _ h => h) rfl (fun wq hS => by have q := (HL3.out.below hS HL3.out.lt).cell (i := 0) rfl; go_simp) HS0.out ?_
    try simp only [Act.put, List.setIfInBounds_toArray, List.set_cons_succ, List.set_cons_zero]
    refine takeH 6 (some 29) (.int .i64 (N : Int)) rfl rfl (by kernel_rfl) (by kernel_rfl) (by kernel_rfl) (fun _ _ _ h => h) rfl (fun wq hS => by go_simp) HS0.out ?_
    try simp only [Act.put, List.setIfInBounds_toArray, List.set_cons_succ, List.set_cons_zero]
    refine takeH 7 (some 30) (.pointer (some ⟨qb, 0, none⟩)) rfl rfl (by kernel_rfl) (by kernel_rfl) (by kernel_rfl) (fun _ _ _ h => h) rfl (fun wq hS => by go_simp) HS0.out ?_
    try simp only [Act.put, List.setIfInBounds_toArray, List.set_cons_succ, List.set_cons_zero]
    refine takeH 8 (some 31) (.pointer (some ⟨qb, 0, none⟩)) rfl rfl (by kernel_rfl) (by kernel_rfl) (by kernel_rfl) (fun _ _ _ h => h) rfl (fun wq hS => by go_simp) HS0.out ?_
    try simp only [Act.put, List.setIfInBounds_toArray, List.set_cons_succ, List.set_cons_zero]
    refine takeH 9 (some 32) (.pointer (some ⟨qb, 1, none⟩)) rfl rfl (by kernel_rfl) (by kernel_rfl) (by kernel_rfl) (fun _ _ _ h => h) rfl (fun wq hS => by go_simp) HS0.out ?_
    try simp only [Act.put, List.setIfInBounds_toArray, List.set_cons_succ, List.set_cons_zero]
    refine takeH 10 (some 33) (.pointer (some ⟨qb, 3, none⟩)) rfl rfl (by kernel_rfl) (by kernel_rfl) (by kernel_rfl) (fun _ _ _ h => h) rfl (fun wq hS => by go_simp) HS0.out ?_
    try simp only [Act.put, List.setIfInBounds_toArray, List.set_cons_succ, List.set_cons_zero]
    refine takeH 11 (some 34) (.int .i64 g.l) rfl rfl (by kernel_rfl) (by kernel_rfl) (by kernel_rfl) (fun _ _ _ h => h) rfl (fun wq hS => by obtain ⟨c0, c1, c2, c3, c4, c5, c6, c7, c8⟩ := (HR3.out.below hS).cells; go_simp) HS0.out ?_
    try simp only [Act.put, List.setIfInBounds_toArray, List.set_cons_succ, List.set_cons_zero]
    refine takeH 12 (some 35) (.bool true) rfl rfl (by kernel_rfl) (by kernel_rfl) (by kernel_rfl) (fun _ _ _ h => h) rfl (fun wq hS => by go_simp) HS0.out ?_
    try simp only [Act.put, List.setIfInBounds_toArray, List.set_cons_succ, List.set_cons_zero]
    refine takeH 13 (some 36) (.bool true) rfl rfl (by kernel_rfl) (by kernel_rfl) (by kernel_rfl) (fun _ _ _ h => h) rfl (fun wq hS => by go_simp) HS0.out ?_
    try simp only [Act.put, List.setIfInBounds_toArray, List.set_cons_succ, List.set_cons_zero]
    refine wpAnyH_done (by kernel_rfl) ?_ _
    have HBZ := Lib.hid (stay HT3.out.b HS0.out)
    go_wp2_with fail
    first | go_ret2 | go_ret
    rw [← HP.out, jput_no hno]
    exact ⟨_, rfl, RPut.same HR.out HBZ.out 1⟩
  have hlaid : laid g a L = true := laid_of hmb (by rw [HNN.out]; omega)
  have dg : decide (g.l < (N : Int)) = false := decide_eq_false hgl
  have HLD := Lib.hid hlaid
  have HNL : Hid ((N : Int) ≤ g.l) := Lib.hid (by omega)
  have HMB := Lib.hid hmb
  clear hmb hgl hlaid
  go_upto_region 2 with fail
  refine startH (fun wq => Below w3.heap.size w3 wq) (by kernel_rfl) ?_
  have HS0 : Hid (Below w3.heap.size w3 w3.drew) := Lib.hid (Below.refl _ _).drew
  generalize w3.drew = u0 at *
  refine takeH 0 (some 23) (.pointer (some ⟨lb, 2, none⟩)) rfl rfl (by kernel_rfl) (by kernel_rfl) (by kernel_rfl) (fun _ _ _ h => h) rfl (fun wq hS => by go_simp) HS0.out ?_
  try simp only [Act.put, List.setIfInBounds_toArray, List.set_cons_succ, List.set_cons_zero]
  refine takeH 1 (some 24) (.bool true) rfl rfl (by kernel_rfl) (by kernel_rfl) (by kernel_rfl) (fun _ _ _ h => h) rfl (fun wq hS => by have q := (HL3.out.below hS HL3.out.lt).cell (i := 2) rfl; go_simp) HS0.out ?_
  try simp only [Act.put, List.setIfInBounds_toArray, List.set_cons_succ, List.set_cons_zero]
  refine takeH 2 (some 25) (.bool false) rfl rfl (by kernel_rfl) (by kernel_rfl) (by kernel_rfl) (fun _ _ _ h => h) rfl (fun wq hS => by go_simp) HS0.out ?_
  try simp only [Act.put, List.setIfInBounds_toArray, List.set_cons_succ, List.set_cons_zero]
  refine takeH 3 (some 26) (.bool false) rfl rfl (by kernel_rfl) (by kernel_rfl) (by kernel_rfl) (fun _ _ _ h => h) rfl (fun wq hS => by go_simp) HS0.out ?_
  try simp only [Act.put, List.setIfInBounds_toArray, List.set_cons_succ, List.set_cons_zero]
  refine takeH 4 (some 27) (.pointer (some ⟨lb, 0, none⟩)) rfl rfl (by kernel_rfl) (by kernel_rfl) (by kernel_rfl) (fun _ _ _ h => h) rfl (fun wq hS => by go_simp) HS0.out ?_
  try simp only [Act.put, List.setIfInBounds_toArray, List.set_cons_succ, List.set_cons_zero]
  refine takeH 5 (some 28) (.slice a7 N c7') rfl rfl (by kernel_rfl) (by kernel_rfl) (by kernel_rfl) (fun _ _ _ h => h) rfl (fun wq hS => by have q := (HL3.out.below hS HL3.out.lt).cell (i := 0) rfl; go_simp) HS0.out ?_
  try simp only [Act.put, List.setIfInBounds_toArray, List.set_cons_succ, List.set_cons_zero]
  refine takeH 6 (some 29) (.int .i64 (N : Int)) rfl rfl (by kernel_rfl) (by kernel_rfl) (by kernel_rfl) (fun _ _ _ h => h) rfl (fun wq hS => by go_simp) HS0.out ?_
  try simp only [Act.put, List.setIfInBounds_toArray, List.set_cons_succ, List.set_cons_zero]
  refine takeH 7 (some 30) (.pointer (some ⟨qb, 0, none⟩)) rfl rfl (by kernel_rfl) (by kernel_rfl) (by kernel_rfl) (fun _ _ _ h => h) rfl (fun wq hS => by go_simp) HS0.out ?_
  try simp only [Act.put, List.setIfInBounds_toArray, List.set_cons_succ, List.set_cons_zero]
  refine takeH 8 (some 31) (.pointer (some ⟨qb, 0, none⟩)) rfl rfl (by kernel_rfl) (by kernel_rfl) (by kernel_rfl) (fun _ _ _ h => h) rfl (fun wq hS => by go_simp) HS0.out ?_
  try simp only [Act.put, List.setIfInBounds_toArray, List.set_cons_succ, List.set_cons_zero]
  refine takeH 9 (some 32) (.pointer (some ⟨qb, 1, none⟩)) rfl rfl (by kernel_rfl) (by kernel_rfl) (by kernel_rfl) (fun _ _ _ h => h) rfl (fun wq hS => by go_simp) HS0.out ?_
  try simp only [Act.put, List.setIfInBounds_toArray, List.set_cons_succ, List.set_cons_zero]
  refine takeH 10 (some 33) (.pointer (some ⟨qb, 3, none⟩)) rfl rfl (by kernel_rfl) (by kernel_rfl) (by kernel_rfl) (fun _ _ _ h => h) rfl (fun wq hS => by go_simp) HS0.out ?_
  try simp only [Act.put, List.setIfInBounds_toArray, List.set_cons_succ, List.set_cons_zero]
  refine takeH 11 (some 34) (.int .i64 g.l) rfl rfl (by kernel_rfl) (by kernel_rfl) (by kernel_rfl) (fun _ _ _ h => h) rfl (fun wq hS => by obtain ⟨c0, c1, c2, c3, c4, c5, c6, c7, c8⟩ := (HR3.out.below hS).cells; go_simp) HS0.out ?_
  try simp only [Act.put, List.setIfInBounds_toArray, List.set_cons_succ, List.set_cons_zero]
  refine takeH 12 (some 35) (.bool false) rfl rfl (by kernel_rfl) (by kernel_rfl) (by kernel_rfl) (fun _ _ _ h => h) rfl (fun wq hS => by go_simp) HS0.out ?_
  try simp only [Act.put, List.setIfInBounds_toArray, List.set_cons_succ, List.set_cons_zero]
  refine takeH 13 (some 36) (.bool false) rfl rfl (by kernel_rfl) (by kernel_rfl) (by kernel_rfl) (fun _ _ _ h => h) rfl (fun wq hS => by go_simp) HS0.out ?_
  try simp only [Act.put, List.setIfInBounds_toArray, List.set_cons_succ, List.set_cons_zero]
  refine wpAnyH_done (by kernel_rfl) ?_ _
  have HB4 := Lib.hid (stay HT3.out.b HS0.out)
  have HL4 := Lib.hid (HL3.out.below HS0.out HL3.out.lt)
  have HT4 := Lib.hid (HT3.out.below HS0.out)
  have HR4 := Lib.hid (HR3.out.below HS0.out)
  have HLB4 : Hid (w.heap.size ≤ lb ∧ lb < u0.heap.size) := Lib.hid ⟨HLB.out.1, HL4.out.lt⟩
  have HU0 : Hid (w.heap.size ≤ u0.heap.size) := Lib.hid HB4.out.size
  clear HS0 HL3 HT3 HR3 HLB dg
  obtain ⟨fa, fc, hfv⟩ := HR4.out.fr.form
  obtain ⟨n9, hn9⟩ : ∃ n, a.free.length = n := ⟨_, rfl⟩
  rw [hn9] at hfv
  subst hfv
  clear hn9
  go_upto_region 4 with fail
  go_cut [7, 8] from 37 to 51 (fun s t wx => ∃ ab ok a1 tv, s = .pointer (some ⟨ab, 0, none⟩) ∧ t = .bool ok ∧ NextAt u0 wx g a N ab ok a1 tv ∧ Below u0.heap.size u0 wx)
  case first =>
    refine startH (fun wq => Below u0.heap.size u0 wq) (by kernel_rfl) ?_
    have HS0 : Hid (Below u0.heap.size u0 u0.drew) := Lib.hid (Below.refl _ _).drew
    generalize u0.drew = v0 at *
    refine takeH 0 (some 38) (.pointer (some ⟨qb, 0, none⟩)) rfl rfl (by kernel_rfl) (by kernel_rfl) (by kernel_rfl) (fun _ _ _ h => h) rfl (fun wq hS => by go_simp) HS0.out ?_
    try simp only [Act.put, List.setIfInBounds_toArray, List.set_cons_succ, List.set_cons_zero]
    refine takeH 1 (some 39) (.pointer (some ⟨qb, 0, none⟩)) rfl rfl (by kernel_rfl) (by kernel_rfl) (by kernel_rfl) (fun _ _ _ h => h) rfl (fun wq hS => by go_simp) HS0.out ?_
    try simp only [Act.put, List.setIfInBounds_toArray, List.set_cons_succ, List.set_cons_zero]
    refine takeH 2 (some 40) (.pointer (some ⟨qb, 1, none⟩)) rfl rfl (by kernel_rfl) (by kernel_rfl) (by kernel_rfl) (fun _ _ _ h => h) rfl (fun wq hS => by go_simp) HS0.out ?_
    try simp only [Act.put, List.setIfInBounds_toArray, List.set_cons_succ, List.set_cons_zero]
    refine takeH 3 (some 41) (.agg #[.int .i64 g.p, .int .i64 g.s, .int .i64 g.l, .int .i64 g.f]) rfl rfl (by kernel_rfl) (by kernel_rfl) (by kernel_rfl) (fun _ _ _ h => h) rfl (fun wq hS => by obtain ⟨c0, c1, c2, c3, c4, c5, c6, c7, c8⟩ := (HR4.out.below hS).cells; go_simp) HS0.out ?_
    try simp only [Act.put, List.setIfInBounds_toArray, List.set_cons_succ, List.set_cons_zero]
    refine takeH 4 (some 42) (.pointer (some ⟨qb, 0, none⟩)) rfl rfl (by kernel_rfl) (by kernel_rfl) (by kernel_rfl) (fun _ _ _ h => h) rfl (fun wq hS => by go_simp) HS0.out ?_
    try simp only [Act.put, List.setIfInBounds_toArray, List.set_cons_succ, List.set_cons_zero]
    refine takeH 5 (some 43) (.pointer (some ⟨qb, 0, none⟩)) rfl rfl (by kernel_rfl) (by kernel_rfl) (by kernel_rfl) (fun _ _ _ h => h) rfl (fun wq hS => by go_simp) HS0.out ?_
    try simp only [Act.put, List.setIfInBounds_toArray, List.set_cons_succ, List.set_cons_zero]
    refine takeH 6 (some 44) (.pointer (some ⟨qb, 5, none⟩)) rfl rfl (by kernel_rfl) (by kernel_rfl) (by kernel_rfl) (fun _ _ _ h => h) rfl (fun wq hS => by go_simp) HS0.out ?_
    try simp only [Act.put, List.setIfInBounds_toArray, List.set_cons_succ, List.set_cons_zero]
    refine takeH 7 (some 45) (.agg #[.int .i64 a.seg, .int .i64 a.off, .int .u32 a.seq, .slice fa n9 fc]) rfl rfl (by kernel_rfl) (by kernel_rfl) (by kernel_rfl) (fun _ _ _ h => h) rfl (fun wq hS => by obtain ⟨c0, c1, c2, c3, c4, c5, c6, c7, c8⟩ := (HR4.out.below hS).cells; go_simp) HS0.out ?_
    try simp only [Act.put, List.setIfInBounds_toArray, List.set_cons_succ, List.set_cons_zero]
    refine takeH 8 (some 46) (.pointer (some ⟨lb, 0, none⟩)) rfl rfl (by kernel_rfl) (by kernel_rfl) (by kernel_rfl) (fun _ _ _ h => h) rfl (fun wq hS => by go_simp) HS0.out ?_
    try simp only [Act.put, List.setIfInBounds_toArray, List.set_cons_succ, List.set_cons_zero]
    refine takeH 9 (some 47) (.slice a7 N c7') rfl rfl (by kernel_rfl) (by kernel_rfl) (by kernel_rfl) (fun _ _ _ h => h) rfl (fun wq hS => by have q := (HL4.out.below hS HL4.out.lt).cell (i := 0) rfl; go_simp) HS0.out ?_
    try simp only [Act.put, List.setIfInBounds_toArray, List.set_cons_succ, List.set_cons_zero]
    refine takeH 10 (some 48) (.int .i64 (N : Int)) rfl rfl (by kernel_rfl) (by kernel_rfl) (by kernel_rfl) (fun _ _ _ h => h) rfl (fun wq hS => by go_simp) HS0.out ?_
    try simp only [Act.put, List.setIfInBounds_toArray, List.set_cons_succ, List.set_cons_zero]
    refine twoH 11 15 (by kernel_rfl) rfl rfl rfl rfl (fun K hK => ?_) (fun K hK => ?_)
    · go_simp
      refine (rnext_any g a (.slice fa n9 fc) HG.out (HR4.out.fr.below HS0.out) N).mono ?_
      rintro e uc ⟨hno, hb⟩
      obtain ⟨a1, ok, ta, tn, tc, rfl, hd⟩ := hno.uni
      have HS1 := Lib.hid (stay HS0.out hb)
      have HD := Lib.hid hd
      have HVS : Hid (u0.heap.size ≤ v0.heap.size) := Lib.hid HS0.out.size
      refine hK _ _ HS1.out ?_
      clear hK K hb hno hd
      try simp only [Act.put, List.setIfInBounds_toArray, List.set_cons_succ, List.set_cons_zero]
      refine takeH 12 (some 37) (.tuple #[.agg #[.int .i64 a1.seg, .int .i64 a1.off, .int .u32 a1.seq, .slice ta tn tc], .bool ok]) rfl rfl (by kernel_rfl) (by kernel_rfl) (by kernel_rfl) (fun _ _ _ h => h) rfl (fun wq hS => by go_simp) HS1.out ?_
      try simp only [Act.put, List.setIfInBounds_toArray, List.set_cons_succ, List.set_cons_zero]
      refine takeH 13 (some 50) (.agg #[.int .i64 a1.seg, .int .i64 a1.off, .int .u32 a1.seq, .slice ta tn tc]) rfl rfl (by kernel_rfl) (by kernel_rfl) (by kernel_rfl) (fun _ _ _ h => h) rfl (fun wq hS => by go_simp) HS1.out ?_
      try simp only [Act.put, List.setIfInBounds_toArray, List.set_cons_succ, List.set_cons_zero]
      refine takeH 14 (some 51) (.bool ok) rfl rfl (by kernel_rfl) (by kernel_rfl) (by kernel_rfl) (fun _ _ _ h => h) rfl (fun wq hS => by go_simp) HS1.out ?_
      try simp only [Act.put, List.setIfInBounds_toArray, List.set_cons_succ, List.set_cons_zero]
      refine oneH 15 (by kernel_rfl) rfl rfl fun K hK => ?_
      refine wp_runTo (some 7) rfl _ _ (exec_alloc _ _ _ 47 rfl _ zero47) ?_
      have HC2 := Lib.hid (Blk.new uc #[.int .i64 0, .int .i64 0, .int .u32 0, .slice none 0 0] 47)
      have HAL := Lib.hid (alloc_bel uc (.cells #[.int .i64 0, .int .i64 0, .int .u32 0, .slice none 0 0] 47))
      have HS2 := Lib.hid (stay HS1.out HAL.out)
      refine hK _ _ HS2.out ?_
      clear hK K
      have HCW : Hid (u0.heap.size ≤ uc.heap.size) := Lib.hid HS1.out.size
      have HD2 : Hid ((ok = false ∧ nextP g a N = none) ∨ (ok = true ∧ nextP g a N = some a1 ∧ IntsAt (uc.alloc (.cells #[.int .i64 0, .int .i64 0, .int .u32 0, .slice none 0 0] 47)) (.slice ta tn tc) a1.free ∧ (∀ b o n c, Value.slice ta tn tc = .slice (some ⟨b, o, none⟩) n c → u0.heap.size ≤ b ∧ b < (uc.alloc (.cells #[.int .i64 0, .int .i64 0, .int .u32 0, .slice none 0 0] 47)).heap.size ∧ b ≠ uc.heap.size) ∧ ∀ q n c, Value.slice ta tn tc = .slice q n c → n ≤ c)) := Lib.hid (HD.out.imp id fun ⟨h1, h2, h3, h4, h5⟩ => ⟨h1, h2, h3.below HAL.out, fun b o n c e => by have := h4 b o n c e; have := HAL.out.size; have := HVS.out; exact ⟨by omega, by omega, by omega⟩, h5⟩)
      generalize uc.alloc (.cells #[.int .i64 0, .int .i64 0, .int .u32 0, .slice none 0 0] 47) = u2 at *
      generalize uc.heap.size = ab at *
      try simp only [Act.put, List.setIfInBounds_toArray, List.set_cons_succ, List.set_cons_zero]
      have HSL := HS2
      refine oneH 16 (by kernel_rfl) rfl rfl fun K hK => ?_
      refine wp_store_all 47 _ _ rfl ab #[.int .i64 a1.seg, .int .i64 a1.off, .int .u32 a1.seq, .slice ta tn tc] rfl rfl _ HC2.out rfl info47 (at_one _ _ _ _ _ _) ?_
      intro u3 hD hO
      have HS3 : Hid (Below u0.heap.size u0 u3) := Lib.hid (HSL.out.trans (hO.below HSL.out.size fun k hk => by rw [hk]; exact HCW.out))
      have HNA : Hid (NextAt u0 u3 g a N ab ok a1 (.slice ta tn tc)) := Lib.hid ⟨HCW.out, hD, HD2.out.imp id fun ⟨h1, h2, h3, h4, h5⟩ => ⟨h1, h2, h3.only hO (fun b o n c e => (h4 b o n c e).2.2), fun b o n c e => by have := h4 b o n c e; exact ⟨this.1, Nat.lt_of_lt_of_le this.2.1 hO.size, this.2.2⟩, h5⟩⟩
      refine hK _ _ HS3.out ?_
      clear hK K hD hO
      try simp only [Act.put, List.setIfInBounds_toArray, List.set_cons_succ, List.set_cons_zero]
      refine takeH 17 (some 8) (.bool ok) rfl rfl (by kernel_rfl) (by kernel_rfl) (by kernel_rfl) (fun _ _ _ h => h) rfl (fun wq hS => by go_simp) HS3.out ?_
      try simp only [Act.put, List.setIfInBounds_toArray, List.set_cons_succ, List.set_cons_zero]
      refine wpAnyH_done (by kernel_rfl) ?_ _
      go_wp2_with fail
      go_meet
      exact ⟨ab, ok, a1, _, rfl, rfl, HNA.out, HS3.out⟩
    · refine wp_runTo (some 7) rfl _ _ (exec_alloc _ _ _ 47 rfl _ zero47) ?_
      have HC1 := Lib.hid (Blk.new v0 #[.int .i64 0, .int .i64 0, .int .u32 0, .slice none 0 0] 47)
      have HS1 := Lib.hid (stay HS0.out (alloc_bel v0 (.cells #[.int .i64 0, .int .i64 0, .int .u32 0, .slice none 0 0] 47)))
      have HCW : Hid (u0.heap.size ≤ v0.heap.size) := Lib.hid HS0.out.size
      have HAS : Hid (v0.heap.size < (v0.alloc (.cells #[.int .i64 0, .int .i64 0, .int .u32 0, .slice none 0 0] 47)).heap.size) := Lib.hid (by simp)
      refine hK _ _ HS1.out ?_
      clear hK K
      generalize v0.alloc (.cells #[.int .i64 0, .int .i64 0, .int .u32 0, .slice none 0 0] 47) = u2 at *
      generalize v0.heap.size = ab at *
      try simp only [Act.put, List.setIfInBounds_toArray, List.set_cons_succ, List.set_cons_zero]
      refine oneH 11 (by kernel_rfl) rfl rfl fun K hK => ?_
      go_simp
      refine (rnext_any g a (.slice fa n9 fc) HG.out (HR4.out.fr.below HS1.out) N).mono ?_
      rintro e uc ⟨hno, hb⟩
      obtain ⟨a1, ok, ta, tn, tc, rfl, hd⟩ := hno.uni
      have HSL := Lib.hid (stay HS1.out hb)
      have HC2 := Lib.hid (HC1.out.below hb HC1.out.lt)
      have HD2 : Hid ((ok = false ∧ nextP g a N = none) ∨ (ok = true ∧ nextP g a N = some a1 ∧ IntsAt uc (.slice ta tn tc) a1.free ∧ (∀ b o n c, Value.slice ta tn tc = .slice (some ⟨b, o, none⟩) n c → u0.heap.size ≤ b ∧ b < uc.heap.size ∧ b ≠ ab) ∧ ∀ q n c, Value.slice ta tn tc = .slice q n c → n ≤ c)) := Lib.hid (hd.imp id fun ⟨h1, h2, h3, h4, h5⟩ => ⟨h1, h2, h3, fun b o n c e => by have := h4 b o n c e; have := HAS.out; have := HCW.out; exact ⟨by omega, by omega, by omega⟩, h5⟩)
      refine hK _ _ HSL.out ?_
      clear hK K hb hno hd
      try simp only [Act.put, List.setIfInBounds_toArray, List.set_cons_succ, List.set_cons_zero]
      refine takeH 12 (some 37) (.tuple #[.agg #[.int .i64 a1.seg, .int .i64 a1.off, .int .u32 a1.seq, .slice ta tn tc], .bool ok]) rfl rfl (by kernel_rfl) (by kernel_rfl) (by kernel_rfl) (fun _ _ _ h => h) rfl (fun wq hS => by go_simp) HSL.out ?_
      try simp only [Act.put, List.setIfInBounds_toArray, List.set_cons_succ, List.set_cons_zero]
      refine takeH 13 (some 50) (.agg #[.int .i64 a1.seg, .int .i64 a1.off, .int .u32 a1.seq, .slice ta tn tc]) rfl rfl (by kernel_rfl) (by kernel_rfl) (by kernel_rfl) (fun _ _ _ h => h) rfl (fun wq hS => by go_simp) HSL.out ?_
      try simp only [Act.put, List.setIfInBounds_toArray, List.set_cons_succ, List.set_cons_zero]
      refine takeH 14 (some 51) (.bool ok) rfl rfl (by kernel_rfl) (by kernel_rfl) (by kernel_rfl) (fun _ _ _ h => h) rfl (fun wq hS => by go_simp) HSL.out ?_
      try simp only [Act.put, List.setIfInBounds_toArray, List.set_cons_succ, List.set_cons_zero]
      refine oneH 16 (by kernel_rfl) rfl rfl fun K hK => ?_
      refine wp_store_all 47 _ _ rfl ab #[.int .i64 a1.seg, .int .i64 a1.off, .int .u32 a1.seq, .slice ta tn tc] rfl rfl _ HC2.out rfl info47 (at_one _ _ _ _ _ _) ?_
      intro u3 hD hO
      have HS3 : Hid (Below u0.heap.size u0 u3) := Lib.hid (HSL.out.trans (hO.below HSL.out.size fun k hk => by rw [hk]; exact HCW.out))
      have HNA : Hid (NextAt u0 u3 g a N ab ok a1 (.slice ta tn tc)) := Lib.hid ⟨HCW.out, hD, HD2.out.imp id fun ⟨h1, h2, h3, h4, h5⟩ => ⟨h1, h2, h3.only hO (fun b o n c e => (h4 b o n c e).2.2), fun b o n c e => by have := h4 b o n c e; exact ⟨this.1, Nat.lt_of_lt_of_le this.2.1 hO.size, this.2.2⟩, h5⟩⟩
      refine hK _ _ HS3.out ?_
      clear hK K hD hO
      try simp only [Act.put, List.setIfInBounds_toArray, List.set_cons_succ, List.set_cons_zero]
      refine takeH 17 (some 8) (.bool ok) rfl rfl (by kernel_rfl) (by kernel_rfl) (by kernel_rfl) (fun _ _ _ h => h) rfl (fun wq hS => by go_simp) HS3.out ?_
      try simp only [Act.put, List.setIfInBounds_toArray, List.set_cons_succ, List.set_cons_zero]
      refine wpAnyH_done (by kernel_rfl) ?_ _
      go_wp2_with fail
      go_meet
      exact ⟨ab, ok, a1, _, rfl, rfl, HNA.out, HS3.out⟩
  case rest =>
    obtain ⟨ab, ok, a1, tv, rfl, rfl, hnx, hb⟩ := hcut
    obtain ⟨hab, hblk, hd⟩ := hnx
    have HB5 := Lib.hid (stay HB4.out hb)
    have HPNA : Hid (∀ b o n c, Value.slice a8 n8 c8' = .slice (some ⟨b, o, none⟩) n c → ¬ b = ab) := Lib.hid fun b o n c e => by have := (HT4.out.a.lt b (by rw [e]; rfl)).2; omega
    have HL5 := Lib.hid (HL4.out.below hb HL4.out.lt)
    have HT5 := Lib.hid (HT4.out.below hb)
    have HR5 := Lib.hid (HR4.out.below hb)
    have HA5 := Lib.hid hblk
    have HAL : Hid (w.heap.size ≤ lb ∧ lb < ab ∧ w.heap.size ≤ ab) := Lib.hid (by have := HLB4.out; omega)
    clear hblk hab hb HL4 HT4 HR4 HLB4 HB4
    rcases hd with ⟨rfl, hnp⟩ | ⟨rfl, hnp, hfr, hbl, hcp⟩
    · have HNP := Lib.hid hnp
      clear hnp
      go_wp2_with fail
      first | go_ret2 | go_ret
      rw [← HP.out, jput_full HLD.out (by rw [HNN.out]; exact HNP.out)]
      exact ⟨_, rfl, RPut.same HR.out HB5.out 14⟩
    have hnx := nextP_nx HG.out HNL.out hnp
    obtain ⟨f, hf, hf4, hfn⟩ := hnx.first
    have HNP := Lib.hid hnp
    have HNX := Lib.hid hnx
    have HFF := Lib.hid hf
    have HFR := Lib.hid hfr
    have HFBL := Lib.hid hbl
    have HFCP := Lib.hid hcp
    have HFB : Hid (4 ≤ f ∧ f + N ≤ d.S.length ∧ f + N ≤ 1024) := Lib.hid (by have := HTOT.out; have := HBD.out; omega)
    have gw : Hid (IntKind.i64.wrap (4 + a1.seg * g.l + a1.off) = (f : Int)) := Lib.hid (by
      unfold firstOf at hf
      rw [hf]
      have := HFB.out
      exact wrap64 (by omega) (by omega))
    obtain ⟨ta, tc, htv⟩ := hfr.form
    obtain ⟨tn, htn⟩ : ∃ n, a1.free.length = n := ⟨_, rfl⟩
    rw [htn] at htv
    subst htv
    clear hnp hnx hf hf4 hfn hfr hbl hcp htn
    go_upto_region 7 with fail
    refine startH (fun wq => Below wc.heap.size wc wq) (by kernel_rfl) ?_
    have HSd : Hid (Below wc.heap.size wc wc.drew) := Lib.hid (Below.refl _ _).drew
    generalize wc.drew = v0 at *
    refine takeH 0 (some 54) (.pointer (some ⟨qb, 0, none⟩)) rfl rfl (by kernel_rfl) (by kernel_rfl) (by kernel_rfl) (fun _ _ _ h => h) rfl (fun wq hS => by go_simp) HSd.out ?_
    try simp only [Act.put, List.setIfInBounds_toArray, List.set_cons_succ, List.set_cons_zero]
    refine takeH 1 (some 55) (.pointer (some ⟨qb, 0, none⟩)) rfl rfl (by kernel_rfl) (by kernel_rfl) (by kernel_rfl) (fun _ _ _ h => h) rfl (fun wq hS => by go_simp) HSd.out ?_
    try simp only [Act.put, List.setIfInBounds_toArray, List.set_cons_succ, List.set_cons_zero]
    refine takeH 2 (some 56) (.pointer (some ⟨qb, 1, none⟩)) rfl rfl (by kernel_rfl) (by kernel_rfl) (by kernel_rfl) (fun _ _ _ h => h) rfl (fun wq hS => by go_simp) HSd.out ?_
    try simp only [Act.put, List.setIfInBounds_toArray, List.set_cons_succ, List.set_cons_zero]
    refine takeH 3 (some 57) (.agg #[.int .i64 g.p, .int .i64 g.s, .int .i64 g.l, .int .i64 g.f]) rfl rfl (by kernel_rfl) (by kernel_rfl) (by kernel_rfl) (fun _ _ _ h => h) rfl (fun wq hS => by obtain ⟨c0, c1, c2, c3, c4, c5, c6, c7, c8⟩ := (HR5.out.below hS).cells; go_simp) HSd.out ?_
    try simp only [Act.put, List.setIfInBounds_toArray, List.set_cons_succ, List.set_cons_zero]
    refine takeH 4 (some 58) (.pointer (some ⟨ab, 0, none⟩)) rfl rfl (by kernel_rfl) (by kernel_rfl) (by kernel_rfl) (fun _ _ _ h => h) rfl (fun wq hS => by go_simp) HSd.out ?_
    try simp only [Act.put, List.setIfInBounds_toArray, List.set_cons_succ, List.set_cons_zero]
    refine takeH 5 (some 59) (.int .i64 a1.seg) rfl rfl (by kernel_rfl) (by kernel_rfl) (by kernel_rfl) (fun _ _ _ h => h) rfl (fun wq hS => by have q := (HA5.out.below hS HA5.out.lt).cell (i := 0) rfl; go_simp) HSd.out ?_
    try simp only [Act.put, List.setIfInBounds_toArray, List.set_cons_succ, List.set_cons_zero]
    refine takeH 7 (some 61) (.pointer (some ⟨ab, 1, none⟩)) rfl rfl (by kernel_rfl) (by kernel_rfl) (by kernel_rfl) (fun _ _ _ h => h) rfl (fun wq hS => by go_simp) HSd.out ?_
    try simp only [Act.put, List.setIfInBounds_toArray, List.set_cons_succ, List.set_cons_zero]
    refine takeH 8 (some 62) (.int .i64 a1.off) rfl rfl (by kernel_rfl) (by kernel_rfl) (by kernel_rfl) (fun _ _ _ h => h) rfl (fun wq hS => by have q := (HA5.out.below hS HA5.out.lt).cell (i := 1) rfl; go_simp) HSd.out ?_
    try simp only [Act.put, List.setIfInBounds_toArray, List.set_cons_succ, List.set_cons_zero]
    refine oneH 6 (by kernel_rfl) rfl rfl fun K hK => ?_
    go_simp
    refine (Pl.rseg_in g HGP.out.1 a1.seg (by have := HNX.out.seg; omega) _).mono ?_
    rintro e wZ ⟨rfl, hb⟩
    have HSZ5 := Lib.hid (stay HSd.out hb)
    refine hK _ _ HSZ5.out ?_
    clear hK K hb
    try simp only [Act.put, List.setIfInBounds_toArray, List.set_cons_succ, List.set_cons_zero]
    refine takeH 9 (some 63) (.int .i64 (f : Int)) rfl rfl (by kernel_rfl) (by kernel_rfl) (by kernel_rfl) (fun _ _ _ h => h) rfl (fun wq hS => by have z := gw.out; go_simp) HSZ5.out ?_
    try simp only [Act.put, List.setIfInBounds_toArray, List.set_cons_succ, List.set_cons_zero]
    refine takeH 10 (some 9) (.int .i64 (f : Int)) rfl rfl (by kernel_rfl) (by kernel_rfl) (by kernel_rfl) (fun _ _ _ h => h) rfl (fun wq hS => by go_simp) HSZ5.out ?_
    try simp only [Act.put, List.setIfInBounds_toArray, List.set_cons_succ, List.set_cons_zero]
    refine wpAnyH_done (by kernel_rfl) ?_ _
    have HBZ := Lib.hid (stay HB5.out HSZ5.out)
    have HLZ := Lib.hid (HL5.out.below HSZ5.out HL5.out.lt)
    have HTZ := Lib.hid (HT5.out.below HSZ5.out)
    have HRZ := Lib.hid (HR5.out.below HSZ5.out)
    have HAZ := Lib.hid (HA5.out.below HSZ5.out HA5.out.lt)
    have HFZ := Lib.hid (HFR.out.below HSZ5.out)
    have HFBL2 : Hid (∀ b o n c, Value.slice ta tn tc = .slice (some ⟨b, o, none⟩) n c → w.heap.size ≤ b ∧ b < wZ.heap.size ∧ b ≠ ab) := Lib.hid fun b o n c e => by
      have h1 := HFBL.out b o n c e
      have h2 := HSZ5.out.size
      have h3 := HU0.out
      exact ⟨by omega, by omega, h1.2.2⟩
    have HZL : Hid (lb < wZ.heap.size ∧ ab < wZ.heap.size) := Lib.hid ⟨HLZ.out.lt, HAZ.out.lt⟩
    have HG1 : Hid (¬ G lb ∧ ¬ G ab) := Lib.hid ⟨fun h => by have := HSZ.out _ h; have := HAL.out; omega, fun h => by have := HSZ.out _ h; have := HAL.out; omega⟩
    have HFAR : Hid (∀ b o n c, Value.slice a7 N c7' = .slice (some ⟨b, o, none⟩) n c → ¬ G b ∧ b < wZ.heap.size) := Lib.hid (OwnS.far (w' := wZ) HTZ.out.s HSZ.out)
    have HST0 : Hid (Rst W wZ wZ qb q G G d d g a (.slice fa n9 fc) (lay2 a.seq L).1 f 0) := Lib.hid ⟨HRZ.out, Only.refl _ _, fun j hj => .inl hj, rfl, Nat.le_refl _, Nat.le_refl _, by simp⟩
    clear HSd HSZ5 HL5 HT5 HR5 HA5 HFR HFBL HB5 gw
    go_wp2_with fail
    go_loopg [10] N (fun q2 i wr => ∃ k Gk dk, N - k ≤ q2 ∧ k ≤ N ∧ i = .int .i64 ((k : Nat) : Int) ∧ Rst W wZ wr qb q G Gk d dk g a (.slice fa n9 fc) (lay2 a.seq L).1 f k)
    case atStart => exact ⟨0, G, d, by omega, by omega, rfl, HST0.out⟩
    case round =>
      obtain ⟨k, Gk, dk, hq, hk, rfl, hst⟩ := hrel
      have hN1 : N ≤ 1024 := by have := HFB.out; omega
      have HW := Lib.hid hst
      have HNL2 : Hid (¬ Gk lb ∧ ¬ Gk ab) := Lib.hid ⟨fun h => (HW.out.nw _ h).elim HG1.out.1 fun h2 => by have := HZL.out; omega, fun h => (HW.out.nw _ h).elim HG1.out.2 fun h2 => by have := HZL.out; omega⟩
      have HLR := Lib.hid (HLZ.out.only HW.out.on HG1.out.1)
      have HSR := Lib.hid (HTZ.out.s.secs.onlyF HW.out.on fun b o n c e => (HFAR.out b o n c e).1)
      have HTT : Hid (dk.T ≤ 1000000 ∧ dk.L.length ≤ 1000000) := Lib.hid (by have := HW.out.T; have := HW.out.L; have := HBD.out; have := HFB.out; omega)
      clear hst
      have l0 := HLR.out.cell (i := 0) rfl
      by_cases hkn : k < N
      · have gk : decide ((k : Int) < (N : Int)) = true := decide_eq_true (by omega)
        have hk0 : (k : Int) < (N : Int) := by omega
        have gw : Hid (IntKind.i64.wrap ((f : Int) + (k : Int)) = (f : Int) + (k : Int)) := Lib.hid (by have := HFB.out; exact wrap64 (by omega) (by omega))
        have HH : Hid (dk.has ((f : Int) + (k : Int)) = true) := Lib.hid (by
          have := HW.out.S
          have := HFB.out
          unfold De.D.has
          simp only [Bool.and_eq_true, decide_eq_true_eq]
          omega)
        obtain ⟨x, hx⟩ : ∃ x, (lay2 a.seq L).1[k]? = some x := ⟨_, List.getElem?_eq_getElem (by rw [HNN.out]; exact hkn)⟩
        obtain ⟨g0, o0, c0, hsa, -, -, hat⟩ := HSR.out.has (by rw [HNN.out]; omega)
        have hsa2 : a7 = some ⟨g0, o0, none⟩ := by injection hsa
        subst hsa2
        obtain ⟨hxs, hxa⟩ := hat k x hx
        have HX := Lib.hid hx
        have HXS := Lib.hid (sc_sec hxs)
        have HXL := Lib.hid hxs.length
        have HXA := Lib.hid hxa
        have HNG : Hid (¬ Gk g0) := Lib.hid fun h => (HW.out.nw _ h).elim (HFAR.out g0 o0 _ _ rfl).1 fun h2 => by have := (HFAR.out g0 o0 _ _ rfl).2; omega
        have HGL : Hid (g0 < wr.heap.size) := Lib.hid (Nat.lt_of_lt_of_le (HFAR.out g0 o0 _ _ rfl).2 HW.out.on.size)
        clear hx hxs hxa hat hsa
        go_upto_region 11 with fail
        clear l0
        refine startH (fun wq => Only Gk wr wq) (by kernel_rfl) ?_
        have HSd : Hid (Only Gk wr wr.drew) := Lib.hid (Only.refl _ _).drew
        have HRD := Lib.hid (HW.out.rn.below (Below.refl _ _).drew)
        have HWD : Hid (Rst W wZ wr.drew qb q G Gk d dk g a (.slice fa n9 fc) (lay2 a.seq L).1 f k) := Lib.hid ⟨HRD.out, HW.out.on.drew, HW.out.nw, HW.out.S, HW.out.T, HW.out.L, HW.out.eq⟩
        refine takeH 0 (some 71) (.pointer (some ⟨qb, 0, none⟩)) rfl rfl (by kernel_rfl) (by kernel_rfl) (by kernel_rfl) (fun _ _ _ h => h) rfl (fun wq hS => by go_simp) HSd.out ?_
        try simp only [Act.put, List.setIfInBounds_toArray, List.set_cons_succ, List.set_cons_zero]
        refine takeH 1 (some 72) (.pointer (some ⟨qb, 0, none⟩)) rfl rfl (by kernel_rfl) (by kernel_rfl) (by kernel_rfl) (fun _ _ _ h => h) rfl (fun wq hS => by go_simp) HSd.out ?_
        try simp only [Act.put, List.setIfInBounds_toArray, List.set_cons_succ, List.set_cons_zero]
        refine takeH 2 (some 73) (.pointer (some ⟨qb, 0, none⟩)) rfl rfl (by kernel_rfl) (by kernel_rfl) (by kernel_rfl) (fun _ _ _ h => h) rfl (fun wq hS => by go_simp) HSd.out ?_
        try simp only [Act.put, List.setIfInBounds_toArray, List.set_cons_succ, List.set_cons_zero]
        refine takeH 3 (some 74) (.pointer (some ⟨q, 0, none⟩)) rfl rfl (by kernel_rfl) (by kernel_rfl) (by kernel_rfl) (fun _ _ _ h => h) rfl (fun wq hS => by have z := (HW.out.rn.blk.only hS HW.out.rn.nG).cell (i := 0) rfl; go_simp) HSd.out ?_
        try simp only [Act.put, List.setIfInBounds_toArray, List.set_cons_succ, List.set_cons_zero]
        refine takeH 4 (some 75) (.int .i64 (f : Int)) rfl rfl (by kernel_rfl) (by kernel_rfl) (by kernel_rfl) (fun _ _ _ h => h) rfl (fun wq hS => by go_simp) HSd.out ?_
        try simp only [Act.put, List.setIfInBounds_toArray, List.set_cons_succ, List.set_cons_zero]
        refine takeH 5 (some 76) (.int .i64 (k : Int)) rfl rfl (by kernel_rfl) (by kernel_rfl) (by kernel_rfl) (fun _ _ _ h => h) rfl (fun wq hS => by go_simp) HSd.out ?_
        try simp only [Act.put, List.setIfInBounds_toArray, List.set_cons_succ, List.set_cons_zero]
        refine takeH 6 (some 77) (.int .i64 ((f : Int) + (k : Int))) rfl rfl (by kernel_rfl) (by kernel_rfl) (by kernel_rfl) (fun _ _ _ h => h) rfl (fun wq hS => by have z := gw.out; go_simp) HSd.out ?_
        try simp only [Act.put, List.setIfInBounds_toArray, List.set_cons_succ, List.set_cons_zero]
        refine takeH 7 (some 78) (.pointer (some ⟨lb, 0, none⟩)) rfl rfl (by kernel_rfl) (by kernel_rfl) (by kernel_rfl) (fun _ _ _ h => h) rfl (fun wq hS => by go_simp) HSd.out ?_
        try simp only [Act.put, List.setIfInBounds_toArray, List.set_cons_succ, List.set_cons_zero]
        refine takeH 8 (some 79) (.slice (some ⟨g0, o0, none⟩) N c7') rfl rfl (by kernel_rfl) (by kernel_rfl) (by kernel_rfl) (fun _ _ _ h => h) rfl (fun wq hS => by have z := (HLR.out.only hS HNL2.out.1).cell (i := 0) rfl; go_simp) HSd.out ?_
        try simp only [Act.put, List.setIfInBounds_toArray, List.set_cons_succ, List.set_cons_zero]
        refine takeH 9 (some 80) (.int .i64 (k : Int)) rfl rfl (by kernel_rfl) (by kernel_rfl) (by kernel_rfl) (fun _ _ _ h => h) rfl (fun wq hS => by go_simp) HSd.out ?_
        try simp only [Act.put, List.setIfInBounds_toArray, List.set_cons_succ, List.set_cons_zero]
        refine takeH 10 (some 81) (.pointer (some ⟨g0, o0 + k * 64, none⟩)) rfl rfl (by kernel_rfl) (by kernel_rfl) (by kernel_rfl) (fun _ _ _ h => h) rfl (fun wq hS => by have z := hk0; go_simp) HSd.out ?_
        try simp only [Act.put, List.setIfInBounds_toArray, List.set_cons_succ, List.set_cons_zero]
        refine takeH 11 (some 82) (.agg ((u8s x).toArray)) rfl rfl (by kernel_rfl) (by kernel_rfl) (by kernel_rfl) (fun _ _ _ h => h) rfl (fun wq hS => exec_load_at wq _ _ 72 _ rfl (g0) (o0 + k * 64) rfl ((u8s x).toArray) _ Tryz.underlying72 rfl (by rw [u8s_size, HXL.out]; exact info72) (fun j hj => by rw [← HXA.out j hj]; simp only [World.cell?, hS.block g0 HGL.out HNG.out])) HSd.out ?_
        try simp only [Act.put, List.setIfInBounds_toArray, List.set_cons_succ, List.set_cons_zero]
        refine oneH 12 (by kernel_rfl) rfl rfl fun K hK => ?_
        go_simp
        refine (De.rv_write HRD.out.rv HTT.out.1 HTT.out.2 ((f : Int) + (k : Int)) _ HXS.out).mono ?_
        rintro e w4 ⟨G', rfl, hrv, hon, hnw⟩
        have HS4 : Hid (Only Gk wr w4) := Lib.hid (HSd.out.then hon (fun j hj => .inl hj))
        rcases writeE_or dk _ HH.out with he | he
        · rw [he]
          have HW5 := Lib.hid (HWD.out.next HX.out he hrv hon hnw)
          refine hK _ _ HS4.out ?_
          clear hK K hrv hon hnw he
          try simp only [Act.put, List.setIfInBounds_toArray, List.set_cons_succ, List.set_cons_zero]
          refine takeH 13 (some 11) (.int .i64 0) rfl rfl (by kernel_rfl) (by kernel_rfl) (by kernel_rfl) (fun _ _ _ h => h) rfl (fun wq hS => by go_simp) HS4.out ?_
          try simp only [Act.put, List.setIfInBounds_toArray, List.set_cons_succ, List.set_cons_zero]
          refine wpAnyH_done (by kernel_rfl) ?_ _
          go_wp2_with fail
          go_roundg (N - (k + 1))
          case measure => omega
          case rel => exact ⟨k + 1, G', _, by omega, by omega, by go_num, HW5.out⟩
        · rw [he]
          have HE := Lib.hid he
          have HJ4 := Lib.hid (HRD.out.dev hrv hon hnw)
          have HO4 := Lib.hid (HWD.out.on.then hon HWD.out.nw)
          have HN4 : Hid (∀ j, G' j → G j ∨ w.heap.size ≤ j) := Lib.hid fun j hj => by
            rcases hnw j hj with h1 | h1
            · exact (HWD.out.nw j h1).imp id fun h2 => Nat.le_trans HBZ.out.size h2
            · exact .inr (Nat.le_trans HBZ.out.size (Nat.le_trans HWD.out.on.size h1))
          have HRES : Hid (wrAll d f (lay2 a.seq L).1 = (dk.write ((f : Int) + (k : Int)) (u8s x).toArray, false)) := Lib.hid (by
            have e1 : wrs d f (lay2 a.seq L).1 = (dk.write ((f : Int) + (k : Int)) (u8s x).toArray, false) := by
              rw [HW.out.eq, List.drop_eq_getElem_cons (List.getElem?_eq_some_iff.1 HX.out).1, (List.getElem?_eq_some_iff.1 HX.out).2]
              simp only [wrs]
              rw [if_neg (by rw [HE.out]; decide)]
            unfold wrAll
            rw [e1]
            rfl)
          refine hK _ _ HS4.out ?_
          clear hK K hrv hon hnw he
          try simp only [Act.put, List.setIfInBounds_toArray, List.set_cons_succ, List.set_cons_zero]
          refine takeH 13 (some 11) (.int .i64 12) rfl rfl (by kernel_rfl) (by kernel_rfl) (by kernel_rfl) (fun _ _ _ h => h) rfl (fun wq hS => by go_simp) HS4.out ?_
          try simp only [Act.put, List.setIfInBounds_toArray, List.set_cons_succ, List.set_cons_zero]
          refine wpAnyH_done (by kernel_rfl) ?_ _
          go_wp2_with fail
          first | go_ret2 | go_ret
          rw [← HP.out, jput_fail HLD.out (by rw [HNN.out]; exact HNP.out) (by rw [HFF.out, HRES.out]), HFF.out, HRES.out]
          exact ⟨_, rfl, G', _, OwnN.nil _ _, HJ4.out, ((Only.of_below (S := G) HBZ.out).then HO4.out fun j hj => .inl hj).more fun _ _ h => .inl h, HN4.out, .inl (Src.refl _)⟩
      · have hkm : N = k := by omega
        subst hkm
        have gk : decide ((N : Int) < (N : Int)) = false := decide_eq_false (by omega)
        have hwr : wrs d f (lay2 a.seq L).1 = (dk, true) := by
          rw [HW.out.eq, List.drop_eq_nil_of_le (Nat.le_of_eq HNN.out)]
          rfl
        have HRES : Hid (wrAll d f (lay2 a.seq L).1 = (dk.flush, decide (dk.flushE = 0))) := Lib.hid (by
          unfold wrAll
          rw [hwr]
          rfl)
        clear hwr
        obtain ⟨c0, c1, c2, c3, c4, c5, c6, c7, c8⟩ := HW.out.rn.cells
        go_wp2_with fail
        refine (De.rv_flush HW.out.rn.rv HTT.out.1 HTT.out.2).mono ?_
        rintro e w4 ⟨G', rfl, hrv, hon, hnw⟩
        have HJ4 := Lib.hid (HW.out.rn.dev hrv hon hnw)
        have HO4 := Lib.hid (HW.out.on.then hon HW.out.nw)
        have HN4 : Hid (∀ j, G' j → G j ∨ wZ.heap.size ≤ j) := Lib.hid fun j hj => by
          rcases hnw j hj with h1 | h1
          · exact HW.out.nw j h1
          · exact .inr (Nat.le_trans HW.out.on.size h1)
        clear hrv hon hnw c0 c1 c2 c3 c4 c5 c6 c7 c8 l0
        rcases flushE_or dk with he | he
        rotate_left
        · rw [he]
          have HE := Lib.hid he
          clear he
          go_wp2_with fail
          first | go_ret2 | go_ret
          rw [← HP.out, jput_fail HLD.out (by rw [HNN.out]; exact HNP.out) (by rw [HFF.out, HRES.out, HE.out]; rfl), HFF.out, HRES.out]
          exact ⟨_, rfl, G', _, OwnN.nil _ _, HJ4.out, ((Only.of_below (S := G) HBZ.out).then HO4.out fun j hj => .inl hj).more fun _ _ h => .inl h, fun j hj => (HN4.out j hj).imp id fun h2 => Nat.le_trans HBZ.out.size h2, .inl (Src.refl _)⟩
        · rw [he]
          have HE := Lib.hid he
          clear he
          have HNN2 : Hid (N ≤ 1024) := Lib.hid hN1
          have HSQ := Lib.hid HNX.out.seq
          have HAF := Lib.hid (HAZ.out.only HO4.out HG1.out.2)
          rw [HSQ.out] at HAF
          have HLF := Lib.hid (HLZ.out.only HO4.out HG1.out.1)
          have HFF2 := Lib.hid (HFZ.out.onlyF HO4.out fun b o n c e h => by have := HSZ.out _ h; have := HFBL2.out b o n c e; omega)
          have HPI := Lib.hid (HTZ.out.a.ints.onlyF HO4.out fun b o n c e h => by have := HSZ.out _ h; have := HTZ.out.a.lt b (by rw [e]; rfl); omega)
          have HPIL : Hid (∀ b o n c, Value.slice a8 n8 c8' = .slice (some ⟨b, o, none⟩) n c → w.heap.size ≤ b) := Lib.hid fun b o n c e => (HTZ.out.a.lt b (by rw [e]; rfl)).1
          have HPIA : Hid (∀ b o n c, Value.slice a8 n8 c8' = .slice (some ⟨b, o, none⟩) n c → ¬ b = ab) := Lib.hid fun b o n c e => HPNA.out b o n c e
          have gw2 : Hid (IntKind.i64.wrap (a1.off + (N : Int)) = a1.off + (N : Int)) := Lib.hid (wrap64 (by have := HNX.out.off; omega) (by have := HNX.out.off; have := HGP.out.1.2.2.1; omega))
          have hq3 := parts_val HMB.out
          have gw3 : Hid (IntKind.u32.wrap (partsN L) = partsN L) := Lib.hid (wrap32 (by omega) (by omega))
          have gw4 : Hid (IntKind.u32.wrap (a.seq + partsN L) = (a.seq + partsN L) % M32) := Lib.hid (by rw [IntKind.wrap_u32]; rfl)
          have HON : Hid (Only G w w4) := Lib.hid ((Only.of_below (S := G) HBZ.out).then HO4.out fun j hj => .inl hj)
          have HG4 : Hid (¬ G' ab ∧ ∀ b o n c, Value.slice ta tn tc = .slice (some ⟨b, o, none⟩) n c → ¬ G' b) := Lib.hid ⟨fun h => (HN4.out _ h).elim HG1.out.2 fun h2 => by have := HZL.out; omega, fun b o n c e h => by
            have h1 := HFBL2.out b o n c e
            rcases HN4.out _ h with h2 | h2
            · have := HSZ.out _ h2; omega
            · omega⟩
          have HJE : Hid (¬ qb = ab ∧ ¬ lb = ab ∧ ¬ lb = qb) := Lib.hid (by have := HAL.out; have := HQB.out; omega)
          clear hN1 hq3 HAZ HLZ HFZ HTZ HRZ HST0 HW HTT HLR HSR HNL2
          go_upto_region 17 with fail
          refine wp_region_lit ?_
          refine takeL (.pointer (some ⟨ab, 1, none⟩)) rfl (by go_simp) ?_
          try simp only [Act.put, List.setIfInBounds_toArray, List.set_cons_succ, List.set_cons_zero]
          refine takeL (.int .i64 a1.off) rfl (by have z := HAF.out.cell (i := 1) rfl; go_simp) ?_
          try simp only [Act.put, List.setIfInBounds_toArray, List.set_cons_succ, List.set_cons_zero]
          refine takeL (.pointer (some ⟨lb, 0, none⟩)) rfl (by go_simp) ?_
          try simp only [Act.put, List.setIfInBounds_toArray, List.set_cons_succ, List.set_cons_zero]
          refine takeL (.slice a7 N c7') rfl (by have z := HLF.out.cell (i := 0) rfl; go_simp) ?_
          try simp only [Act.put, List.setIfInBounds_toArray, List.set_cons_succ, List.set_cons_zero]
          refine takeL (.int .i64 (N : Int)) rfl (by go_simp) ?_
          try simp only [Act.put, List.setIfInBounds_toArray, List.set_cons_succ, List.set_cons_zero]
          refine takeL (.int .i64 (a1.off + (N : Int))) rfl (by have z := gw2.out; go_simp) ?_
          try simp only [Act.put, List.setIfInBounds_toArray, List.set_cons_succ, List.set_cons_zero]
          refine takeL (.pointer (some ⟨ab, 1, none⟩)) rfl (by go_simp) ?_
          try simp only [Act.put, List.setIfInBounds_toArray, List.set_cons_succ, List.set_cons_zero]
          refine skipL (w4.setCell ⟨ab, 1, none⟩ (.int .i64 (a1.off + (N : Int)))) rfl (by have z := HAF.out.cell (i := 1) rfl; have fz := HAF.out.frozen 1; go_simp) ?_
          have HV7 := Lib.hid (HAF.out.set 1 (.int .i64 (a1.off + (N : Int))))
          have HO7 : Hid (Only (fun k => k = ab) w4 (w4.setCell ⟨ab, 1, none⟩ (.int .i64 (a1.off + (N : Int))))) := Lib.hid ((Only.refl (fun k => k = ab) w4).setCell (p := ⟨ab, 1, none⟩) (.inl rfl) _)
          generalize w4.setCell ⟨ab, 1, none⟩ (.int .i64 (a1.off + (N : Int))) = w7 at *
          try simp only [Act.put, List.setIfInBounds_toArray, List.set_cons_succ, List.set_cons_zero]
          refine wpList_nil ?_
          go_upto_region 18 with fail
          go_cut [108] from 102 to 108 (fun s wx => s = .pointer (some ⟨ab, 2, none⟩) ∧ Blk wx ab [.int .i64 a1.seg, .int .i64 (a1.off + (N : Int)), .int .u32 ((a.seq + partsN L) % M32), .slice ta tn tc] ∧ Only (fun k => k = ab) w7 wx)
          case first =>
            refine startH (fun wq => Only (fun k => k = ab) w7 wq) (by kernel_rfl) ?_
            have HSd : Hid (Only (fun k => k = ab) w7 w7.drew) := Lib.hid (Only.refl _ _).drew
            have HVd := Lib.hid HV7.out.drew
            have HIW : Hid (∀ wq, Only (fun k => k = ab) w7 wq → ItemsAt wq (.slice sa m sc) l) := Lib.hid fun wq hS => HIT.out wq (HON.out.then (HO7.out.trans hS) (fun j hj => .inr (by rw [hj]; exact HAL.out.2.2)))
            generalize w7.drew = wS at *
            refine takeH 0 (some 102) (.pointer (some ⟨ab, 2, none⟩)) rfl rfl (by kernel_rfl) (by kernel_rfl) (by kernel_rfl) (fun _ _ _ h => h) rfl (fun wq hS => by go_simp) HSd.out ?_
            try simp only [Act.put, List.setIfInBounds_toArray, List.set_cons_succ, List.set_cons_zero]
            refine takeH 2 (some 104) (.slice sa m sc) rfl rfl (by kernel_rfl) (by kernel_rfl) (by kernel_rfl) (fun _ _ _ h => h) rfl (fun wq hS => by go_simp) HSd.out ?_
            try simp only [Act.put, List.setIfInBounds_toArray, List.set_cons_succ, List.set_cons_zero]
            refine twoH 1 3 (by kernel_rfl) rfl rfl rfl rfl (fun K hK => ?_) (fun K hK => ?_)
            · refine wp_runTo (some 103) rfl (.int .u32 a.seq) wS (by have hq := HVd.out.cell (i := 2) rfl; go_simp) ?_
              refine hK _ _ HSd.out ?_
              clear hK K
              try simp only [Act.put, List.setIfInBounds_toArray, List.set_cons_succ, List.set_cons_zero]
              refine oneH 3 (by kernel_rfl) rfl rfl fun K hK => ?_
              go_simp
              refine (HPG.out _ (HIW.out _ HSd.out)).mono ?_
              rintro e wT ⟨rfl, hb⟩
              have HST : Hid (Only (fun k => k = ab) w7 wT) := Lib.hid (HSd.out.trans (Only.of_below hb))
              have HVT := Lib.hid (HVd.out.below hb HVd.out.lt)
              refine hK _ _ HST.out ?_
              clear hK K hb
              try simp only [Act.put, List.setIfInBounds_toArray, List.set_cons_succ, List.set_cons_zero]
              refine takeH 4 (some 106) (.int .u32 (partsN L)) rfl rfl (by kernel_rfl) (by kernel_rfl) (by kernel_rfl) (fun _ _ _ h => h) rfl (fun wq hS => by have z := gw3.out; go_simp) HST.out ?_
              try simp only [Act.put, List.setIfInBounds_toArray, List.set_cons_succ, List.set_cons_zero]
              refine takeH 5 (some 107) (.int .u32 ((a.seq + partsN L) % M32)) rfl rfl (by kernel_rfl) (by kernel_rfl) (by kernel_rfl) (fun _ _ _ h => h) rfl (fun wq hS => by have z := gw4.out; go_simp) HST.out ?_
              try simp only [Act.put, List.setIfInBounds_toArray, List.set_cons_succ, List.set_cons_zero]
              refine takeH 6 (some 108) (.pointer (some ⟨ab, 2, none⟩)) rfl rfl (by kernel_rfl) (by kernel_rfl) (by kernel_rfl) (fun _ _ _ h => h) rfl (fun wq hS => by go_simp) HST.out ?_
              try simp only [Act.put, List.setIfInBounds_toArray, List.set_cons_succ, List.set_cons_zero]
              refine oneH 7 (by kernel_rfl) rfl rfl fun K hK => ?_
              refine swp_skipTo none rfl (wT.setCell ⟨ab, 2, none⟩ (.int .u32 ((a.seq + partsN L) % M32))) (by have hq := HVT.out.cell (i := 2) rfl; have hf := HVT.out.frozen 2; go_simp) ?_
              have HSe : Hid (Only (fun k => k = ab) w7 (wT.setCell ⟨ab, 2, none⟩ (.int .u32 ((a.seq + partsN L) % M32)))) := Lib.hid (HST.out.setCell (p := ⟨ab, 2, none⟩) (.inl rfl) _)
              have HVe := Lib.hid (HVT.out.set 2 (.int .u32 ((a.seq + partsN L) % M32)))
              refine hK _ _ HSe.out ?_
              clear hK K
              generalize wT.setCell ⟨ab, 2, none⟩ (.int .u32 ((a.seq + partsN L) % M32)) = wU at *
              try simp only [Act.put, List.setIfInBounds_toArray, List.set_cons_succ, List.set_cons_zero]
              refine wpAnyH_done (by kernel_rfl) ?_ _
              go_wp2_with fail
              go_meet
              exact ⟨rfl, HVe.out, HSe.out⟩
            · go_simp
              refine (HPG.out _ (HIW.out _ HSd.out)).mono ?_
              rintro e wT ⟨rfl, hb⟩
              have HST : Hid (Only (fun k => k = ab) w7 wT) := Lib.hid (HSd.out.trans (Only.of_below hb))
              have HVT := Lib.hid (HVd.out.below hb HVd.out.lt)
              refine hK _ _ HST.out ?_
              clear hK K hb
              try simp only [Act.put, List.setIfInBounds_toArray, List.set_cons_succ, List.set_cons_zero]
              refine takeH 4 (some 106) (.int .u32 (partsN L)) rfl rfl (by kernel_rfl) (by kernel_rfl) (by kernel_rfl) (fun _ _ _ h => h) rfl (fun wq hS => by have z := gw3.out; go_simp) HST.out ?_
              try simp only [Act.put, List.setIfInBounds_toArray, List.set_cons_succ, List.set_cons_zero]
              refine oneH 1 (by kernel_rfl) rfl rfl fun K hK => ?_
              refine wp_runTo (some 103) rfl (.int .u32 a.seq) wT (by have hq := HVT.out.cell (i := 2) rfl; go_simp) ?_
              refine hK _ _ HST.out ?_
              clear hK K
              try simp only [Act.put, List.setIfInBounds_toArray, List.set_cons_succ, List.set_cons_zero]
              refine takeH 5 (some 107) (.int .u32 ((a.seq + partsN L) % M32)) rfl rfl (by kernel_rfl) (by kernel_rfl) (by kernel_rfl) (fun _ _ _ h => h) rfl (fun wq hS => by have z := gw4.out; go_simp) HST.out ?_
              try simp only [Act.put, List.setIfInBounds_toArray, List.set_cons_succ, List.set_cons_zero]
              refine takeH 6 (some 108) (.pointer (some ⟨ab, 2, none⟩)) rfl rfl (by kernel_rfl) (by kernel_rfl) (by kernel_rfl) (fun _ _ _ h => h) rfl (fun wq hS => by go_simp) HST.out ?_
              try simp only [Act.put, List.setIfInBounds_toArray, List.set_cons_succ, List.set_cons_zero]
              refine oneH 7 (by kernel_rfl) rfl rfl fun K hK => ?_
              refine swp_skipTo none rfl (wT.setCell ⟨ab, 2, none⟩ (.int .u32 ((a.seq + partsN L) % M32))) (by have hq := HVT.out.cell (i := 2) rfl; have hf := HVT.out.frozen 2; go_simp) ?_
              have HSe : Hid (Only (fun k => k = ab) w7 (wT.setCell ⟨ab, 2, none⟩ (.int .u32 ((a.seq + partsN L) % M32)))) := Lib.hid (HST.out.setCell (p := ⟨ab, 2, none⟩) (.inl rfl) _)
              have HVe := Lib.hid (HVT.out.set 2 (.int .u32 ((a.seq + partsN L) % M32)))
              refine hK _ _ HSe.out ?_
              clear hK K
              generalize wT.setCell ⟨ab, 2, none⟩ (.int .u32 ((a.seq + partsN L) % M32)) = wU at *
              try simp only [Act.put, List.setIfInBounds_toArray, List.set_cons_succ, List.set_cons_zero]
              refine wpAnyH_done (by kernel_rfl) ?_ _
              go_wp2_with fail
              go_meet
              exact ⟨rfl, HVe.out, HSe.out⟩
          case rest =>
            obtain ⟨rfl, hv, ho⟩ := hcut
            have HV9 := Lib.hid hv
            have HO9 := Lib.hid (HO7.out.trans ho)
            have HJB := Lib.hid (HJ4.out.blk.only HO9.out HJE.out.1)
            have HLB9 := Lib.hid (HLF.out.only HO9.out HJE.out.2.1)
            have HNW := Lib.hid HNX.out
            clear hv ho HV7 HO7 gw2 gw3 gw4
            go_upto_region 19 with fail
            refine wp_region_lit ?_
            refine takeL (.pointer (some ⟨qb, 0, none⟩)) rfl (by go_simp) ?_
            try simp only [Act.put, List.setIfInBounds_toArray, List.set_cons_succ, List.set_cons_zero]
            refine takeL (.agg #[.int .i64 a1.seg, .int .i64 (a1.off + (N : Int)), .int .u32 ((a.seq + partsN L) % M32), .slice ta tn tc]) rfl (by have q0 := HV9.out.cell (i := 0) rfl; have q1 := HV9.out.cell (i := 1) rfl; have q2 := HV9.out.cell (i := 2) rfl; have q3 := HV9.out.cell (i := 3) rfl; go_simp) ?_
            try simp only [Act.put, List.setIfInBounds_toArray, List.set_cons_succ, List.set_cons_zero]
            refine takeL (.pointer (some ⟨qb, 0, none⟩)) rfl (by go_simp) ?_
            try simp only [Act.put, List.setIfInBounds_toArray, List.set_cons_succ, List.set_cons_zero]
            refine takeL (.pointer (some ⟨qb, 5, none⟩)) rfl (by go_simp) ?_
            try simp only [Act.put, List.setIfInBounds_toArray, List.set_cons_succ, List.set_cons_zero]
            refine store_g (g := qb) (off := 5) (cs := #[.int .i64 a1.seg, .int .i64 (a1.off + (N : Int)), .int .u32 ((a.seq + partsN L) % M32), .slice ta tn tc]) HJB.out info47 (by simp) (at_one _ _ _ _ _ _) rfl rfl rfl ?_
            intro wB hD hO hlD
            try simp only [Act.put, List.setIfInBounds_toArray, List.set_cons_succ, List.set_cons_zero]
            have HOB : Hid (Only (fun k => k = ab ∨ k = qb) w4 wB) := Lib.hid ((HO9.out.more fun j _ hj => .inl hj).trans (hO.more fun j _ hj => .inr hj))
            have HTB := Lib.hid (HJ4.out.turnS (a' := ⟨a1.seg, a1.off + (N : Int), (a.seq + partsN L) % M32, a1.free⟩) HOB.out
              (fun j hj => hj.elim (fun e => by rw [e]; exact Nat.le_trans HWZ.out HAL.out.2.2) fun e => by rw [e]; exact HR.out.lo)
              (fun j hG hj => hj.elim (fun e => HG4.out.1 (e ▸ hG)) fun e => HJ4.out.nG (e ▸ hG))
              (by simpa [splice] using hD)
              (HFF2.out.onlyF HOB.out fun b' o n c e hj => by
                have h1 := HFBL2.out b' o n c e
                have h2 := HQB.out
                rcases hj with hj | hj
                · exact h1.2.2 hj
                · omega)
              (fun b' o n c e => by
                have h1 := HFBL2.out b' o n c e
                have h2 := HQB.out
                have h3 := HWZ.out
                have h4 := HO4.out.size
                have h5 := HOB.out.size
                exact ⟨by omega, by omega, HG4.out.2 b' o n c e, by omega⟩))
            have HLB := Lib.hid (HLB9.out.only hO HJE.out.2.2)
            have HPB := Lib.hid (HPI.out.onlyF HOB.out fun b' o n c e hj => by
              have h1 := HPIL.out b' o n c e
              have h2 := HQB.out
              have h3 := HPIA.out b' o n c e
              rcases hj with hj | hj
              · exact h3 hj
              · omega)
            have HOW0 : Hid (OwnN wB wB.heap.size (.slice none 0 0) (((lay2 a.seq L).2.map (plOf f)).take 0)) := Lib.hid (OwnN.nil _ _)
            have HSB : Hid (w.heap.size ≤ wB.heap.size) := Lib.hid (Nat.le_trans HON.out.size HOB.out.size)
            have HPM : Hid (∀ x ∈ (lay2 a.seq L).2, x < (N : Int)) := Lib.hid fun x hx => by have := (lay2_mem hx).2; rw [HNN.out] at this; exact this
            have HN81 : Hid (n8 ≤ 64) := Lib.hid (by have := (mayBe_iff.1 HMB.out).2.1; have := lay2_at a.seq L; rw [HN8.out] at this; omega)
            clear hD hO hlD HV9 HO9 HJB HLB9 HPI HLF HFF2
            refine wpList_nil ?_
            go_wp2_with fail
            go_loopg [13, 14] n8 (fun q2 u13 i wr => ∃ (c : Nat) (s13 : Value), s13 = u13 ∧ n8 - c ≤ q2 ∧ c ≤ n8 ∧ i = .int .i64 (c : Int) ∧ OwnN wr wB.heap.size s13 (((lay2 a.seq L).2.map (plOf f)).take c) ∧ Below wB.heap.size wB wr)
            case atStart => exact ⟨0, _, rfl, by omega, by omega, rfl, HOW0.out, Below.refl _ _⟩
            case round =>
              obtain ⟨c, s13, rfl, hq2, hc, rfl, hown, hbel⟩ := hrel
              have hn8 := HN81.out
              have HOW := Lib.hid hown
              have HBL := Lib.hid hbel
              have HLR := Lib.hid (HLB.out.below hbel HLB.out.lt)
              have HPR := Lib.hid (HPB.out.below hbel)
              obtain ⟨fa3, fc3, hfv3⟩ := hown.ints.form
              have hlen3 : (((lay2 a.seq L).2.map (plOf f)).take c).length = c := by rw [List.length_take, List.length_map, HN8.out]; omega
              rw [hlen3] at hfv3
              subst hfv3
              clear hown hbel
              have l1 := HLR.out.cell (i := 1) rfl
              by_cases hcn : c < n8
              · have gk : decide ((c : Int) < (n8 : Int)) = true := decide_eq_true (by omega)
                have hc0 : (c : Int) < (n8 : Int) := by omega
                obtain ⟨x, hx⟩ : ∃ x, (lay2 a.seq L).2[c]? = some x := ⟨_, List.getElem?_eq_getElem (by rw [HN8.out]; exact hcn)⟩
                obtain ⟨pb, po, hpa2, hpc⟩ : ∃ pb po, a8 = some ⟨pb, po, none⟩ ∧ wr.cell? ⟨pb, po + c, none⟩ = some (.int .i64 x) := by
                  obtain ⟨a', c', e, hcc⟩ := HPR.out
                  obtain ⟨b2, o2, h1, h2⟩ := hcc c _ hx
                  injection e with e1 e2 e3
                  exact ⟨b2, o2, by rw [e1, h1], h2⟩
                subst hpa2
                have hxN := HPM.out x (List.mem_of_getElem? hx)
                obtain ⟨y, hy⟩ : ∃ y, plOf (f : Int) x = y := ⟨_, rfl⟩
                have HNXT : Hid (((lay2 a.seq L).2.map (plOf f)).take (c + 1) = ((lay2 a.seq L).2.map (plOf f)).take c ++ [y]) := Lib.hid (by
                  rw [List.take_add_one, List.getElem?_map, hx]
                  simp [hy])
                by_cases h0 : 0 ≤ x
                · have d0 : decide (0 ≤ x) = true := decide_eq_true h0
                  have hyx : (f : Int) + x = y := by rw [← hy]; unfold plOf; rw [if_pos h0]
                  have gwx : IntKind.i64.wrap ((f : Int) + x) = y := by rw [← hyx]; have := HFB.out; exact wrap64 (by omega) (by have := HNN2.out; omega)
                  clear hy hyx h0 hxN hx
                  go_upto_region 27 with fail
                  refine wp_region_lit ?_
                  refine takeL (.slice fa3 c fc3) rfl (by go_simp) ?_
                  try simp only [Act.put, List.setIfInBounds_toArray, List.set_cons_succ, List.set_cons_zero]
                  refine takeL (.int .i64 y) rfl (by go_simp) ?_
                  try simp only [Act.put, List.setIfInBounds_toArray, List.set_cons_succ, List.set_cons_zero]
                  refine wpList_run (.slice (some ⟨wr.heap.size, 0, none⟩) 1 1) (wr.alloc (.cells #[.int .i64 y] 3)) rfl (by go_simp) ?_
                  try simp only [Act.put, List.setIfInBounds_toArray, List.set_cons_succ, List.set_cons_zero]
                  have hb1 := alloc_bel wr (.cells #[.int .i64 y] 3)
                  have hl1 : IntsAt (wr.alloc (.cells #[.int .i64 y] 3)) (.slice (some ⟨wr.heap.size, 0, none⟩) 1 1) [y] := (OwnN.lit wr wr.heap.size (Nat.le_refl _) [y] (by simp) _ rfl).ints
                  refine app_LNg (HOW.out.below hb1) (Nat.le_trans HBL.out.size hb1.size) hl1 (by rw [hlen3]; simp only [List.length_cons, List.length_nil]; omega) rfl rfl rfl ?_
                  intro tv2 w8 ho hg8
                  try simp only [Act.put, List.setIfInBounds_toArray, List.set_cons_succ, List.set_cons_zero]
                  rw [← HNXT.out] at ho
                  have HO8 := Lib.hid ho
                  have HB8 : Hid (Below wB.heap.size wB w8) := Lib.hid ((stay HBL.out hb1).trans (grown_below hg8 (Nat.le_trans HBL.out.size hb1.size) fun k hk => (HOW.out.lt k hk).1))
                  obtain ⟨ta3, tc3, htv3⟩ := ho.ints.form
                  obtain ⟨tn3, htn3⟩ : ∃ n, (((lay2 a.seq L).2.map (plOf f)).take (c + 1)).length = n := ⟨_, rfl⟩
                  rw [htn3] at htv3
                  subst htv3
                  clear hb1 hl1 ho hg8 HOW HBL HLR HPR l1 hpc htn3 hlen3
                  refine takeL (.slice ta3 tn3 tc3) rfl (by go_simp) ?_
                  try simp only [Act.put, List.setIfInBounds_toArray, List.set_cons_succ, List.set_cons_zero]
                  refine wpList_nil ?_
                  go_wp2_with fail
                  go_roundg (n8 - (c + 1))
                  case measure => omega
                  case rel => exact ⟨c + 1, _, rfl, by omega, by omega, by go_num, HO8.out, HB8.out⟩
                · have d0 : decide (0 ≤ x) = false := decide_eq_false h0
                  have hyx : y = 0 := by rw [← hy]; unfold plOf; rw [if_neg h0]
                  subst hyx
                  clear hy h0 hxN hx
                  go_upto_region 27 with fail
                  refine wp_region_lit ?_
                  refine takeL (.slice fa3 c fc3) rfl (by go_simp) ?_
                  try simp only [Act.put, List.setIfInBounds_toArray, List.set_cons_succ, List.set_cons_zero]
                  refine takeL (.int .i64 0) rfl (by go_simp) ?_
                  try simp only [Act.put, List.setIfInBounds_toArray, List.set_cons_succ, List.set_cons_zero]
                  refine wpList_run (.slice (some ⟨wr.heap.size, 0, none⟩) 1 1) (wr.alloc (.cells #[.int .i64 0] 3)) rfl (by go_simp) ?_
                  try simp only [Act.put, List.setIfInBounds_toArray, List.set_cons_succ, List.set_cons_zero]
                  have hb1 := alloc_bel wr (.cells #[.int .i64 0] 3)
                  have hl1 : IntsAt (wr.alloc (.cells #[.int .i64 0] 3)) (.slice (some ⟨wr.heap.size, 0, none⟩) 1 1) [0] := (OwnN.lit wr wr.heap.size (Nat.le_refl _) [0] (by simp) _ rfl).ints
                  refine app_LNg (HOW.out.below hb1) (Nat.le_trans HBL.out.size hb1.size) hl1 (by rw [hlen3]; simp only [List.length_cons, List.length_nil]; omega) rfl rfl rfl ?_
                  intro tv2 w8 ho hg8
                  try simp only [Act.put, List.setIfInBounds_toArray, List.set_cons_succ, List.set_cons_zero]
                  rw [← HNXT.out] at ho
                  have HO8 := Lib.hid ho
                  have HB8 : Hid (Below wB.heap.size wB w8) := Lib.hid ((stay HBL.out hb1).trans (grown_below hg8 (Nat.le_trans HBL.out.size hb1.size) fun k hk => (HOW.out.lt k hk).1))
                  obtain ⟨ta3, tc3, htv3⟩ := ho.ints.form
                  obtain ⟨tn3, htn3⟩ : ∃ n, (((lay2 a.seq L).2.map (plOf f)).take (c + 1)).length = n := ⟨_, rfl⟩
                  rw [htn3] at htv3
                  subst htv3
                  clear hb1 hl1 ho hg8 HOW HBL HLR HPR l1 hpc htn3 hlen3
                  refine takeL (.slice ta3 tn3 tc3) rfl (by go_simp) ?_
                  try simp only [Act.put, List.setIfInBounds_toArray, List.set_cons_succ, List.set_cons_zero]
                  refine wpList_nil ?_
                  go_wp2_with fail
                  go_roundg (n8 - (c + 1))
                  case measure => omega
                  case rel => exact ⟨c + 1, _, rfl, by omega, by omega, by go_num, HO8.out, HB8.out⟩
              · obtain rfl : n8 = c := by omega
                have gk : decide ((n8 : Int) < (n8 : Int)) = false := decide_eq_false (by omega)
                have HFIN : Hid (OwnN wr wB.heap.size (.slice fa3 n8 fc3) ((lay2 a.seq L).2.map (plOf f))) := Lib.hid (by
                  have h1 := HOW.out
                  rwa [List.take_of_length_le (by rw [List.length_map, HN8.out]; exact Nat.le_refl _)] at h1)
                clear hlen3
                go_wp2_with fail
                first | go_ret2 | go_ret
                rw [← HP.out, jput_ok HLD.out (by rw [HNN.out]; exact HNP.out) (by rw [HFF.out, HRES.out, HE.out]; rfl), HFF.out, HRES.out, HNN.out]
                refine ⟨_, rfl, G', _, HFIN.out.mono HSB.out, HTB.out.below HBL.out, ?_, fun j hj => (HN4.out j hj).imp id fun h2 => Nat.le_trans HBZ.out.size h2, .inr fun b o n c e => (HFBL2.out b o n c e).1⟩
                refine (((HON.out.more fun _ _ h => .inl h).then HOB.out fun j hj => ?_).trans (Only.of_below HBL.out))
                rcases hj with hj | hj
                · exact .inr (by rw [hj]; exact HAL.out.2.2)
                · exact .inl (.inr hj)
end

end Go.Proofs.YtmlniannilnmhaaGreatDoor
