/- Package journal: Put. Puts that go through and that fail; the first call's journal. The statements' own helpers: Own, Same. What the statements' walks share. A journal or none; how many sectors there are. A Put of one image, and what is read of it. What JournalApart asks of places. Rows of truth values; slices of slices of items. -/
import Derived.Test.YthlnmdihdcfphaaGreatDoorJh
namespace Go.Proofs.YthlnmdihdcfphaaGreatDoor
set_option linter.unusedSimpArgs false
set_option linter.unusedVariables false
open Go.RowKit

section
variable {W w : World} {jb b : Nat} {F : Nat → Prop} {d : De.D} {g : Pl.Gm} {a : Ja} {fv : Value}
theorem putE_any (h : Jn W w jb b F d g a fv) (hV : Vars W) (l : List (It × Value)) (L : List It) (hL : l.map (·.1) = L) (sv : Value) (hlen : l.length < 100000) (hi : ItemsAt w sv l) (hit : ∀ w', Only F w w' → ItemsAt w' sv l)
    (hS : d.S.length ≤ 1024) (hT : d.T ≤ 800000) (hLn : d.L.length ≤ 800000) : Calls Tryz.prog 28 #[.pointer (some ⟨jb, 0, none⟩), sv] w fun e w' => ∃ pv ev, e = .returned (.tuple #[pv, ev]) ∧ PutOut W w jb b F fv g (jput g a d L) pv ev w' := by
  cases hy : laid g a L
  · exact put_no h l L hL sv hlen hi hy
  · cases hx : nextP g a (lay2 a.seq L).1.length with
    | none => exact put_full h l L hL sv hlen hi hy hx
    | some a1 => exact put_go h hV l L hL sv hlen hi hit hy a1 hx hS hT hLn
/-- A Put: the number, the places, where the journal is, the device. -/
def PutN (W w : World) (jb b : Nat) (F : Nat → Prop) (fv : Value) (g : Pl.Gm) (p : Pr) (pv : Value) (w' : World) : Prop :=
  ∃ F' fv', OwnN w' w.heap.size pv p.pl ∧ Jn W w' jb b F' p.d g p.a fv' ∧ Only (fun k => F k ∨ k = jb) w w' ∧ (∀ k, F' k → F k ∨ w.heap.size ≤ k) ∧ (∀ k, pv.ownBlock = some k → ¬ F' k ∧ k ≠ jb) ∧ Src fv fv'
set_option maxRecDepth 100000 in
theorem put_any (h : Jn W w jb b F d g a fv) (hV : Vars W) (l : List (It × Value)) (L : List It) (hL : l.map (·.1) = L) (sv : Value) (hlen : l.length < 100000) (hi : ItemsAt w sv l) (hit : ∀ w', Only F w w' → ItemsAt w' sv l)
    (hS : d.S.length ≤ 1024) (hT : d.T ≤ 800000) (hLn : d.L.length ≤ 800000) : Calls Tryz.prog 14 #[.pointer (some ⟨jb, 0, none⟩), sv] w fun e w' => ∃ pv, e = .returned (.tuple #[pv, .int .i64 (jput g a d L).e]) ∧ PutN W w jb b F fv g (jput g a d L) pv w' := by
  have HP := Lib.hid (putE_any h hV l L hL sv hlen hi hit hS hT hLn)
  have HV := Lib.hid hV
  obtain ⟨sa, sc, hsv⟩ := items_one hi
  obtain ⟨m, hm⟩ : ∃ m, l.length = m := ⟨_, rfl⟩
  rw [hm] at hsv
  subst hsv
  obtain ⟨p, hp⟩ : ∃ p, jput g a d L = p := ⟨_, rfl⟩
  rw [hp] at HP ⊢
  clear h hV hL hlen hi hit hS hT hLn hm hp
  go_enter Tryz.func14, Tryz.ntmps14
  go_wp2_with fail
  refine HP.out.mono ?_
  rintro e w1 ⟨pv, ev, rfl, F', fv', he, ho, hj, hon, hn, hpa, hsr⟩
  have HO := Lib.hid ho
  have HJ := Lib.hid hj
  have HON := Lib.hid hon
  have HN := Lib.hid hn
  have HPA := Lib.hid hpa
  have HSR := Lib.hid hsr
  have HVA := Lib.hid (Vars.below (Nat.le_refl _) hj.dv.2 HV.out)
  obtain ⟨pa, pc, hpv⟩ := ho.ints.form
  obtain ⟨pn, hpn⟩ : ∃ n, p.pl.length = n := ⟨_, rfl⟩
  rw [hpn] at hpv
  subst hpv
  clear ho hj hon hn hpa hsr hpn HP
  rcases he with ⟨h0, rfl⟩ | ⟨h0, hf⟩
  · have H0 := Lib.hid h0
    clear h0
    go_wp2_with fail
    refine (of_nil _).mono ?_
    rintro e w2 ⟨rfl, rfl⟩
    go_wp2_with fail
    first | go_ret2 | go_ret
    exact ⟨.slice pa pn pc, by rw [H0.out]; rfl, F', fv', HO.out, HJ.out, HON.out, HN.out, HPA.out, HSR.out⟩
  · have HF := Lib.hid hf
    obtain ⟨T, dd, hv⟩ := hf.shape
    subst hv
    clear hf h0
    go_wp2_with fail
    refine (of_fault _ _ _ HVA.out HF.out).mono ?_
    rintro e w2 ⟨rfl, hb⟩
    have HB := Lib.hid hb
    clear hb
    go_wp2_with fail
    first | go_ret2 | go_ret
    exact ⟨_, rfl, F', fv', HO.out.below HB.out, HJ.out.below HB.out, HON.out.trans (Only.of_below HB.out), HN.out, HPA.out, HSR.out⟩
end

end Go.Proofs.YthlnmdihdcfphaaGreatDoor
namespace Go.Proofs.YthlnmdihdcfphaaGreatDoor
set_option linter.unusedSimpArgs false
set_option linter.unusedVariables false
open Go.RowKit

abbrev nb : Value := .slice none 0 0
theorem imgI_ok {id v : Int} (h : 0 ≤ id ∧ id < 64) : (imgI id v).ok = true := by
  have h1 : okMark (1, id) = true := okMark_iff.2 ⟨by simp, by simp, h.1, h.2, by intro e; simp at e⟩
  have h2 : within id 0 63 = true := by simp [within]; omega
  simp [It.ok, It.fits, It.has, imgI, imgB, h1, hasBlock, Bk.good, Bk.plain, h2]
theorem byteN (n : Nat) (h : n < 256) : Byte (n : Int) := ⟨by omega, by omega⟩
theorem smallN (n : Nat) (h : n < 1000) : Small (n : Int) := ⟨by omega, by omega⟩
theorem seqN (n : Nat) (h : n < 1000) : Seq32 (n : Int) := ⟨by omega, by simp only [M32]; omega⟩
theorem lit1_run (W : World) {x : It} (hx : x.Wf) : (Instr.buildSlice 44 1 #[(0, .agg (x.arr nb))]).run Tryz.prog W = .ok (.slice (some ⟨W.heap.size, 0, none⟩) 1 1) (W.alloc (.cells (itCells [(x, nb)]).toArray 75)) := run_litI W [(x, nb)] (fun y hy => by obtain rfl := List.mem_singleton.1 hy; exact hx) (by simp) (by simp)
/-- A literal of items without bytes: it is there as long as the device alone is turned. -/
theorem lit_its (W : World) {l : List (It × Value)} (h : ∀ x ∈ l, x.1.Wf ∧ x.2 = nb ∧ x.1.blk.bytes = []) (n : Nat) (hn : l.length = n) (hl : n ≤ 1000) {F : Nat → Prop} (hF : ∀ k, F k → k < W.heap.size) :
    ItemsAt (W.alloc (.cells (itCells l).toArray 75)) (.slice (some ⟨W.heap.size, 0, none⟩) n n) l ∧ ∀ w', Only F (W.alloc (.cells (itCells l).toArray 75)) w' → ItemsAt w' (.slice (some ⟨W.heap.size, 0, none⟩) n n) l := by
  subst hn
  have h1 := (OwnI.lit (w := W) (fun x hx => (h x hx).1) (fun x hx => by obtain ⟨-, h2, h3⟩ := h x hx; rw [h2, h3]; exact BytesAt.nil _ _ _) hl).items
  refine ⟨h1, fun w' ho => h1.onlyF ho (fun b o n c e hb => ?_) fun x hx b o n c e => ?_⟩
  · cases e
    have := hF _ hb
    omega
  · rw [(h x hx).2.1] at e
    cases e
/-- A device that fails later than all this, or not at all. -/
theorem wrs_run (d : De.D) (i : Int) (X : List (List Int)) (h0 : 0 ≤ i) (h1 : i + (X.length : Nat) ≤ d.S.length) (hF : d.F < 0 ∨ ((X.length : Nat) : Int) ≤ d.F) :
    (wrs d i X).2 = true ∧ (wrs d i X).1.S = d.S ∧ (wrs d i X).1.T = d.T + X.length ∧ (wrs d i X).1.F = (if d.F < 0 then d.F else d.F - (X.length : Nat)) := by
  induction X generalizing d i with
  | nil =>
    refine ⟨rfl, rfl, rfl, ?_⟩
    show d.F = _
    split <;> simp
  | cons x r ih =>
    simp only [List.length_cons] at h1 hF
    have hh : d.has i = true := by
      unfold De.D.has
      simp only [Bool.and_eq_true, decide_eq_true_eq]
      omega
    have hf : ¬ d.F = 0 := by omega
    have he : d.writeE i = 0 := by unfold De.D.writeE; rw [if_pos hh, if_neg hf]
    have hw : d.write i (u8s x).toArray = { d with F := d.nextF, T := d.T + 1, L := d.L ++ [(i.toNat, (u8s x).toArray)] } := by unfold De.D.write; rw [if_pos hh, if_neg hf]
    have hn : d.nextF = if d.F < 0 then d.F else d.F - 1 := rfl
    unfold wrs
    rw [if_pos he, hw]
    obtain ⟨k1, k2, k3, k4⟩ := ih { d with F := d.nextF, T := d.T + 1, L := d.L ++ [(i.toNat, (u8s x).toArray)] } (i + 1) (by omega) (by simp only; omega) (by simp only; rw [hn]; split <;> omega)
    refine ⟨k1, k2, ?_, ?_⟩
    · rw [k3, List.length_cons]; simp only; omega
    · rw [k4]
      simp only
      rw [hn, List.length_cons]
      by_cases h : d.F < 0
      · simp only [if_pos h]
      · simp only [if_neg h]
        rw [if_neg (by omega)]
        omega
theorem wrAll_run (d : De.D) (i : Int) (X : List (List Int)) (h0 : 0 ≤ i) (h1 : i + (X.length : Nat) ≤ d.S.length) (hF : d.F < 0 ∨ ((X.length + 1 : Nat) : Int) ≤ d.F) :
    (wrAll d i X).2 = true ∧ (wrAll d i X).1.L = [] ∧ (wrAll d i X).1.T = d.T + X.length + 1 ∧ (wrAll d i X).1.F = (if d.F < 0 then d.F else d.F - ((X.length + 1 : Nat) : Int)) := by
  obtain ⟨k1, k2, k3, k4⟩ := wrs_run d i X h0 h1 (by omega)
  have hf : ¬ (wrs d i X).1.F = 0 := by rw [k4]; split <;> omega
  unfold wrAll
  rw [if_pos k1]
  have e1 : (wrs d i X).1.flushE = 0 := by unfold De.D.flushE; rw [if_neg hf]
  have e2 : (wrs d i X).1.flush = { (wrs d i X).1 with F := (wrs d i X).1.nextF, T := (wrs d i X).1.T + 1, S := De.app (wrs d i X).1.S (wrs d i X).1.L, L := [] } := by unfold De.D.flush; rw [if_neg hf]
  rw [e1, e2]
  refine ⟨rfl, rfl, by simp only; omega, ?_⟩
  simp only
  unfold De.D.nextF
  rw [k4]
  by_cases h : d.F < 0
  · simp only [if_pos h]
  · simp only [if_neg h]
    rw [if_neg (by omega)]
    omega
/-- A Put that goes through. -/
theorem jput_runs {g : Pl.Gm} {a a1 : Ja} {d : De.D} {L : List It} (hg : a.good g = true) (hl : laid g a L = true) (hn : nextP g a (lay2 a.seq L).1.length = some a1) (ht : 4 + g.s * g.l ≤ (d.S.length : Int)) (hF : d.F < 0 ∨ (((lay2 a.seq L).1.length + 1 : Nat) : Int) ≤ d.F) :
    (jput g a d L).e = 0 ∧ (jput g a d L).pl = (lay2 a.seq L).2.map (plOf (firstOf g a1)) ∧ (jput g a d L).a = ⟨a1.seg, a1.off + (lay2 a.seq L).1.length, (a.seq + partsN L) % M32, a1.free⟩ ∧ (jput g a d L).d.L = [] ∧ (jput g a d L).d.T = d.T + (lay2 a.seq L).1.length + 1 ∧ (jput g a d L).d.S.length = d.S.length ∧ (jput g a d L).d.F = (if d.F < 0 then d.F else d.F - (((lay2 a.seq L).1.length + 1 : Nat) : Int)) := by
  obtain ⟨f, hf, hf4, hfn⟩ := (nextP_nx hg (laid_parts hl).2 hn).first
  obtain ⟨k1, k2, k3, k4⟩ := wrAll_run d (firstOf g a1) (lay2 a.seq L).1 (by omega) (by omega) hF
  rw [jput_ok hl hn k1]
  exact ⟨rfl, rfl, rfl, k2, k3, (wrAll_len d (firstOf g a1) (lay2 a.seq L).1).1, k4⟩
theorem newD_len (n : Nat) : (De.newD n).S.length = n := List.length_replicate
/-- The first call's journal. -/
def WG : Pl.Gm := ⟨16, 8, 24, 4⟩
def WA0 : Ja := ⟨1, 22, 5, [3, 4]⟩
def WA1 : Ja := ⟨1, 24, 6, [3, 4]⟩
def WA2 : Ja := ⟨3, 2, 7, [4]⟩
def WL1 : List It := [imgI 3 7]
theorem WL1_may : mayBe WL1 = true := mayBe_iff.2 ⟨by decide, by decide, fun x hx => by
  obtain rfl := List.mem_singleton.1 hx
  exact imgI_ok (by decide), by decide⟩
theorem WL1_len (n : Int) : (lay2 n WL1).1.length = 2 := by rw [lay2_length]; decide
theorem WL1_at (n : Int) : (lay2 n WL1).2 = [1] := rfl
theorem WA0_good : WA0.good WG = true := by decide
theorem WA1_good : WA1.good WG = true := by decide
theorem wk_put1 : (jput WG WA0 (De.newD 200) WL1).e = 0 ∧ (jput WG WA0 (De.newD 200) WL1).pl = [51] ∧ (jput WG WA0 (De.newD 200) WL1).a = WA1 ∧ (jput WG WA0 (De.newD 200) WL1).d.L = [] ∧ (jput WG WA0 (De.newD 200) WL1).d.T = 3 ∧ (jput WG WA0 (De.newD 200) WL1).d.S.length = 200 ∧ (jput WG WA0 (De.newD 200) WL1).d.F = -1 := by
  have hp : partsN WL1 = 1 := by unfold partsN; rw [WL1_may]; rfl
  have hl : laid WG WA0 WL1 = true := by unfold laid; rw [WL1_may, WL1_len]; decide
  have hn : nextP WG WA0 (lay2 WA0.seq WL1).1.length = some WA0 := by rw [WL1_len]; rfl
  obtain ⟨h1, h2, h3, h4, h5, h6, h7⟩ := jput_runs (d := De.newD 200) WA0_good hl hn (by rw [newD_len]; decide) (.inl (by decide))
  rw [WL1_len] at h3 h5 h7
  rw [WL1_at] at h2
  rw [hp] at h3
  exact ⟨h1, h2, h3, h4, h5, by rw [h6, newD_len], h7⟩
end Go.Proofs.YthlnmdihdcfphaaGreatDoor
namespace Go.Proofs.YthlnmdihdcfphaaGreatDoor
set_option linter.unusedSimpArgs false
set_option linter.unusedVariables false
open Go.RowKit

theorem app_WN {B : Nat} {sv tv : Value} {l m : List Int} {o : Oper} {a : Act} {w : World} {K : Act → World → Prop} {Q : Exit → Act → World → Prop} (x y : Operand) (dst : Option Tmp) (hd : o.dst = dst) (ho : o.op = .call { callee := .builtin .append, args := #[x, y], argTypes := #[37, 37] })
    (h : OwnN w B sv l) (hB : B ≤ w.heap.size) (k : IntsAt w tv m) (hlen : l.length + m.length ≤ 1000000) (hx : a.eval x = sv) (hy : a.eval y = tv)
    (hh : ∀ sv' w', OwnN w' B sv' (l ++ m) → Below B w w' → K (a.put dst sv') w') : o.wp Tryz.prog a w K Q := by
  obtain ⟨sv', w', hr, hO, hg⟩ := app_ownN h hB k hlen o.type
  exact wp_runTo dst hd sv' w' (exec_app a.eval o x y 37 37 ho sv tv sv' hx hy hr) (hh sv' w' hO (grown_below hg hB fun k hk => (h.lt k hk).1))
theorem Only.of_belowB {B : Nat} {a b : World} (h : Below B a b) : Only (fun j => B ≤ j) a b := ⟨h.os, h.tape, h.output, h.size, fun i hi hn => h.block i (by omega)⟩
theorem zero57 : (Tryz.prog.info? 57).bind (·.zero) = some (.agg #[.int .i64 0, .int .i64 0, .int .u32 0, .slice none 0 0]) := by kernel_rfl
theorem info57 : (Tryz.prog.info? 57).map (·.size) = some 4 := by kernel_rfl
theorem built57 (s o q : Int) (a : Option Addr) (n c : Nat) : Tryz.prog.built 57 [(0, .int .i64 s), (1, .int .i64 o), (2, .int .u32 q), (3, .slice a n c)] = some #[.int .i64 s, .int .i64 o, .int .u32 q, .slice a n c] := by kernel_rfl
theorem wp_store_all {P : Program} {o : Oper} {a : Act} {w : World} {K : Act → World → Prop} {Q : Exit → Act → World → Prop} (ty : TypeId) (x y : Operand) (ho : o.op = .store ty x y) (g : Nat) (cs : Array Value) (hx : a.eval x = .pointer (some ⟨g, 0, none⟩)) (hy : a.eval y = .agg cs) (l : List Value) (hg : Blk w g l) (hl : l.length = cs.size) (hi : (P.info? ty).map (·.size) = some cs.size) (h1 : ∀ v ∈ cs, v.oneCell' = true)
    (h : ∀ wX, Blk wX g cs.toList → Only (fun k => k = g) w wX → K (a.put o.dst undef) wX) : o.wp P a w K Q := by
  refine wp_store_at ty x y ho g 0 cs hx hy l hg hi (by omega) h1 ?_
  rw [splice_all _ _ hl]
  exact h _ (hg.row cs) ((Only.refl (fun k => k = g) w).setRow (g := g) (.inl rfl) cs)
section
variable {w : World}
set_option maxRecDepth 100000 in
theorem lown_any (a : Ja) (fv : Value) (hl : a.free.length ≤ 1000000) (h : IntsAt w fv a.free) : Calls Tryz.prog 19 #[.agg #[.int .i64 a.seg, .int .i64 a.off, .int .u32 a.seq, fv]] w fun e w' => ∃ tv, e = .returned (.agg #[.int .i64 a.seg, .int .i64 a.off, .int .u32 a.seq, tv]) ∧ OwnN w' w.heap.size tv a.free ∧ Below w.heap.size w w' := by
  obtain ⟨fa, fc, hfv⟩ := h.form
  obtain ⟨n, hnn⟩ : ∃ n, a.free.length = n := ⟨_, rfl⟩
  rw [hnn] at hfv hl
  subst hfv
  have HN := Lib.hid hnn
  have HI := Lib.hid h
  have HL := Lib.hid hl
  clear h hnn hl
  go_enter Tryz.func19, Tryz.ntmps19
  go_upto_region 0 with fail
  refine wp_region_lit ?_
  refine box_g rfl rfl ?_
  try simp only [Act.put, List.setIfInBounds_toArray, List.set_cons_succ, List.set_cons_zero]
  intro w1 hV hb hl
  try simp only [Act.put, List.setIfInBounds_toArray, List.set_cons_succ, List.set_cons_zero]
  have HV := Lib.hid hV
  have HB := Lib.hid hb
  have HLT : Hid (w.heap.size < w1.heap.size) := Lib.hid hl
  clear hV hb hl
  refine alloc_g zero57 rfl ?_
  intro w2 hR hb hl
  try simp only [Act.put, List.setIfInBounds_toArray, List.set_cons_succ, List.set_cons_zero]
  have HR := Lib.hid hR
  have HV2 := Lib.hid (HV.out.below hb HV.out.lt)
  have HB2 := Lib.hid (stay HB.out hb)
  have HI2 := Lib.hid (HI.out.below HB2.out)
  have HNE : Hid (¬ w.heap.size = w1.heap.size) := Lib.hid (by have := HLT.out; omega)
  have HW1 : Hid (w.heap.size ≤ w1.heap.size ∧ w1.heap.size < w2.heap.size) := Lib.hid ⟨by have := HLT.out; omega, hl⟩
  clear hR hb hl HV HB
  generalize w1.heap.size = r at *
  refine wpList_nil ?_
  go_upto_region 1 with fail
  refine startH (fun wq => Only (fun k => k = r) w2 wq) (by kernel_rfl) ?_
  have HS0 : Hid (Only (fun k => k = r) w2 w2.drew) := Lib.hid (Only.refl _ _).drew
  have HR0 : Hid (Blk w2.drew r [.int .i64 0, .int .i64 0, .int .u32 0, .slice none 0 0]) := Lib.hid HR.out.drew
  have HUR : Hid (r < w2.drew.heap.size) := Lib.hid HR0.out.lt
  generalize w2.drew = u0 at *
  refine takeH 0 (some 3) (.pointer (some ⟨w.heap.size, 0, none⟩)) rfl rfl (by kernel_rfl) (by kernel_rfl) (by kernel_rfl) (fun _ _ _ h => h) rfl (fun wq hS => by go_simp) HS0.out ?_
  try simp only [Act.put, List.setIfInBounds_toArray, List.set_cons_succ, List.set_cons_zero]
  refine takeH 1 (some 4) (.int .i64 a.seg) rfl rfl (by kernel_rfl) (by kernel_rfl) (by kernel_rfl) (fun _ _ _ h => h) rfl (fun wq hS => by have q := (HV2.out.only hS HNE.out).cell (i := 0) rfl; go_simp) HS0.out ?_
  try simp only [Act.put, List.setIfInBounds_toArray, List.set_cons_succ, List.set_cons_zero]
  refine takeH 2 (some 5) (.pointer (some ⟨w.heap.size, 1, none⟩)) rfl rfl (by kernel_rfl) (by kernel_rfl) (by kernel_rfl) (fun _ _ _ h => h) rfl (fun wq hS => by go_simp) HS0.out ?_
  try simp only [Act.put, List.setIfInBounds_toArray, List.set_cons_succ, List.set_cons_zero]
  refine takeH 3 (some 6) (.int .i64 a.off) rfl rfl (by kernel_rfl) (by kernel_rfl) (by kernel_rfl) (fun _ _ _ h => h) rfl (fun wq hS => by have q := (HV2.out.only hS HNE.out).cell (i := 1) rfl; go_simp) HS0.out ?_
  try simp only [Act.put, List.setIfInBounds_toArray, List.set_cons_succ, List.set_cons_zero]
  refine takeH 4 (some 7) (.pointer (some ⟨w.heap.size, 2, none⟩)) rfl rfl (by kernel_rfl) (by kernel_rfl) (by kernel_rfl) (fun _ _ _ h => h) rfl (fun wq hS => by go_simp) HS0.out ?_
  try simp only [Act.put, List.setIfInBounds_toArray, List.set_cons_succ, List.set_cons_zero]
  refine takeH 5 (some 8) (.int .u32 a.seq) rfl rfl (by kernel_rfl) (by kernel_rfl) (by kernel_rfl) (fun _ _ _ h => h) rfl (fun wq hS => by have q := (HV2.out.only hS HNE.out).cell (i := 2) rfl; go_simp) HS0.out ?_
  try simp only [Act.put, List.setIfInBounds_toArray, List.set_cons_succ, List.set_cons_zero]
  refine takeH 7 (some 10) (.pointer (some ⟨w.heap.size, 3, none⟩)) rfl rfl (by kernel_rfl) (by kernel_rfl) (by kernel_rfl) (fun _ _ _ h => h) rfl (fun wq hS => by go_simp) HS0.out ?_
  try simp only [Act.put, List.setIfInBounds_toArray, List.set_cons_succ, List.set_cons_zero]
  refine takeH 8 (some 11) (.slice fa n fc) rfl rfl (by kernel_rfl) (by kernel_rfl) (by kernel_rfl) (fun _ _ _ h => h) rfl (fun wq hS => by have q := (HV2.out.only hS HNE.out).cell (i := 3) rfl; go_simp) HS0.out ?_
  try simp only [Act.put, List.setIfInBounds_toArray, List.set_cons_succ, List.set_cons_zero]
  refine oneH 6 (by kernel_rfl) rfl rfl fun K hK => ?_
  refine wp_runTo (some 9) rfl (.slice (some ⟨u0.heap.size, 0, none⟩) 0 0) (u0.alloc (.cells #[] 3)) (by go_simp) ?_
  have HO1 : Hid (OwnN (u0.alloc (.cells #[] 3)) u0.heap.size (.slice (some ⟨u0.heap.size, 0, none⟩) 0 0) []) := Lib.hid (OwnN.lit u0 u0.heap.size (Nat.le_refl _) [] (by simp) #[] rfl)
  have HS1 : Hid (Only (fun k => k = r) w2 (u0.alloc (.cells #[] 3))) := Lib.hid (HS0.out.alloc _)
  have HR1 : Hid (Blk (u0.alloc (.cells #[] 3)) r [.int .i64 0, .int .i64 0, .int .u32 0, .slice none 0 0]) := Lib.hid (HR0.out.alloc _)
  have HU1 : Hid (u0.heap.size ≤ (u0.alloc (.cells #[] 3)).heap.size) := Lib.hid (by simp)
  have HUW : Hid (w2.heap.size ≤ u0.heap.size) := Lib.hid HS0.out.size
  refine hK _ _ HS1.out ?_
  clear hK K
  generalize u0.alloc (.cells #[] 3) = u1 at *
  generalize u0.heap.size = g1 at *
  try simp only [Act.put, List.setIfInBounds_toArray, List.set_cons_succ, List.set_cons_zero]
  refine oneH 9 (by kernel_rfl) rfl rfl fun K hK => ?_
  have HB3 : Hid (Below w.heap.size w u1) := Lib.hid (HB2.out.trans (HS1.out.below HB2.out.size fun k hk => by rw [hk]; exact HW1.out.1))
  refine app_WN _ _ (some 12) rfl rfl HO1.out HU1.out (HI.out.below HB3.out) (by simp only [List.length_nil, HN.out]; have := HL.out; omega) rfl rfl ?_
  intro tv u2 ho hb
  rw [List.nil_append] at ho
  have HO2 := Lib.hid ho
  have HS2 : Hid (Only (fun k => k = r) w2 u2) := Lib.hid (HS1.out.then (Only.of_belowB hb) fun j hj => .inr (Nat.le_trans HUW.out hj))
  have HR2 := Lib.hid (HR1.out.below hb HUR.out)
  obtain ⟨ta, tc, htv⟩ := ho.ints.form
  rw [HN.out] at htv
  subst htv
  refine hK _ _ HS2.out ?_
  clear hK K ho hb
  try simp only [Act.put, List.setIfInBounds_toArray, List.set_cons_succ, List.set_cons_zero]
  refine takeH 10 (some 13) (.agg #[.int .i64 a.seg, .int .i64 a.off, .int .u32 a.seq, .slice ta n tc]) rfl rfl (by kernel_rfl) (by kernel_rfl) (by kernel_rfl) (fun _ _ _ h => h) rfl (fun wq hS => by exact exec_build _ _ _ _ 57 _ rfl #[(0, .int .i64 a.seg), (1, .int .i64 a.off), (2, .int .u32 a.seq), (3, .slice ta n tc)] (by simp only [List.map_toArray, List.map_cons, List.map_nil]; rfl) _ (run_build wq 57 _ _ (built57 _ _ _ _ _ _))) HS2.out ?_
  try simp only [Act.put, List.setIfInBounds_toArray, List.set_cons_succ, List.set_cons_zero]
  refine oneH 11 (by kernel_rfl) rfl rfl fun K hK => ?_
  refine wp_store_all 57 _ _ rfl r #[.int .i64 a.seg, .int .i64 a.off, .int .u32 a.seq, .slice ta n tc] rfl rfl _ HR2.out rfl info57 (at_one _ _ _ _ _ _) ?_
  intro u3 hD hO
  have HD := Lib.hid hD
  have HS3 : Hid (Only (fun k => k = r) w2 u3) := Lib.hid (HS2.out.trans hO)
  have HO3 := Lib.hid (HO2.out.onlyN hO HUR.out)
  refine hK _ _ HS3.out ?_
  clear hK K hD hO
  try simp only [Act.put, List.setIfInBounds_toArray, List.set_cons_succ, List.set_cons_zero]
  refine wpAnyH_done (by kernel_rfl) ?_ _
  have HB4 : Hid (Below w.heap.size w u3) := Lib.hid (HB2.out.trans (HS3.out.below HB2.out.size fun k hk => by rw [hk]; exact HW1.out.1))
  go_wp2_with fail
  refine bodyPost_ret (v := .agg #[.int .i64 a.seg, .int .i64 a.off, .int .u32 a.seq, .slice ta n tc]) (results_cell_at rfl _ _ r 0 _ _ rfl Tryz.underlying57 rfl info57 (HD.out.all rfl)) rfl ⟨_, rfl, HO3.out.mono (Nat.le_trans HB2.out.size HUW.out), HB4.out⟩
set_option maxRecDepth 100000 in
theorem same_yes (a : Ja) (fv gv : Value) (hl : a.free.length ≤ 1000) (h : IntsAt w fv a.free) (k : IntsAt w gv a.free) : Calls Tryz.prog 18 #[.agg #[.int .i64 a.seg, .int .i64 a.off, .int .u32 a.seq, fv], .agg #[.int .i64 a.seg, .int .i64 a.off, .int .u32 a.seq, gv]] w fun e w' => e = .returned (.bool true) ∧ Below w.heap.size w w' := by
  obtain ⟨fa, fc, hfv⟩ := h.form
  obtain ⟨ga, gc, hgv⟩ := k.form
  obtain ⟨n, hnn⟩ : ∃ n, a.free.length = n := ⟨_, rfl⟩
  rw [hnn] at hfv hgv
  subst hfv
  subst hgv
  have HI := Lib.hid h
  have HK := Lib.hid k
  have HIA := Lib.hid fun sv tv w h k => ints_any a.free a.free hl hl sv tv w h k
  rw [decide_eq_true (rfl : a.free = a.free)] at HIA
  clear h k hl hnn
  go_enter Tryz.func18, Tryz.ntmps18
  go_upto_region 0 with fail
  refine wp_region_lit ?_
  refine box_g rfl rfl ?_
  try simp only [Act.put, List.setIfInBounds_toArray, List.set_cons_succ, List.set_cons_zero]
  intro w1 hV hb hl
  try simp only [Act.put, List.setIfInBounds_toArray, List.set_cons_succ, List.set_cons_zero]
  have HV := Lib.hid hV
  have HB := Lib.hid hb
  have HLT : Hid (w.heap.size < w1.heap.size) := Lib.hid hl
  clear hV hb hl
  refine box_g rfl rfl ?_
  try simp only [Act.put, List.setIfInBounds_toArray, List.set_cons_succ, List.set_cons_zero]
  intro w2 hV hb hl
  try simp only [Act.put, List.setIfInBounds_toArray, List.set_cons_succ, List.set_cons_zero]
  have HR := Lib.hid hV
  have HV2 := Lib.hid (HV.out.below hb HV.out.lt)
  have HB2 := Lib.hid (stay HB.out hb)
  clear hV hb hl HV HB
  generalize w1.heap.size = r at *
  refine takeL (.bool false) rfl (by go_simp) ?_
  try simp only [Act.put, List.setIfInBounds_toArray, List.set_cons_succ, List.set_cons_zero]
  refine wpList_nil ?_
  have q0 := HV2.out.cell (i := 0) rfl
  have q1 := HV2.out.cell (i := 1) rfl
  have q2 := HV2.out.cell (i := 2) rfl
  have q3 := HV2.out.cell (i := 3) rfl
  have p0 := HR.out.cell (i := 0) rfl
  have p1 := HR.out.cell (i := 1) rfl
  have p2 := HR.out.cell (i := 2) rfl
  have p3 := HR.out.cell (i := 3) rfl
  go_wp2_with fail
  refine (HIA.out _ _ _ (HI.out.below HB2.out) (HK.out.below HB2.out)).mono ?_
  rintro e w3 ⟨rfl, hb⟩
  have HB3 := Lib.hid (stay HB2.out hb)
  clear q0 q1 q2 q3 p0 p1 p2 p3 hb
  go_wp2_with fail
  go_ret
  exact ⟨rfl, HB3.out⟩
end

end Go.Proofs.YthlnmdihdcfphaaGreatDoor
namespace Go.Proofs.YthlnmdihdcfphaaGreatDoor
set_option linter.unusedSimpArgs false
set_option linter.unusedVariables false
open Go.RowKit

section
variable {W w w' : World} {jb b : Nat} {F F' : Nat → Prop} {d : De.D} {g : Pl.Gm} {a : Ja} {fv : Value}
theorem Jn.bel (h : Jn W w jb b F d g a fv) : Below W.heap.size W w := h.dv.2
/-- A block that neither the journal nor its device has. -/
def Safe (w : World) (F : Nat → Prop) (jb k : Nat) : Prop := k < w.heap.size ∧ ¬ F k ∧ k ≠ jb
theorem Safe.next {k : Nat} (h : Safe w F jb k) (ho : Only (fun k => F k ∨ k = jb) w w') (hn : ∀ k, F' k → F k ∨ w.heap.size ≤ k) : Safe w' F' jb k :=
  ⟨Nat.lt_of_lt_of_le h.1 ho.size, fun hF => (hn k hF).elim h.2.1 fun h2 => by have := h.1; omega, h.2.2⟩
theorem Safe.dev {k : Nat} (h : Safe w F jb k) (ho : Only F w w') (hn : ∀ k, F' k → F k ∨ w.heap.size ≤ k) : Safe w' F' jb k := h.next (ho.more fun _ _ hj => .inl hj) hn
theorem Safe.below {k : Nat} (h : Safe w F jb k) (hb : Below w.heap.size w w') : Safe w' F jb k := ⟨Nat.lt_of_lt_of_le h.1 hb.size, h.2⟩
theorem Safe.blk {k : Nat} {l : List Value} (h : Safe w F jb k) (ho : Only (fun k => F k ∨ k = jb) w w') (hb : Blk w k l) : Blk w' k l := hb.only ho fun hF => hF.elim h.2.1 h.2.2
/-- A Put of items that were there ahead of the device. -/
theorem put_law (h : Jn W w jb b F d g a fv) (hV : Vars W) (l : List (It × Value)) (L : List It) (hL : l.map (·.1) = L) (sv : Value) (hlen : l.length < 100000) (hi : ItemsAt W sv l)
    (hS : d.S.length ≤ 1024) (hT : d.T ≤ 800000) (hLn : d.L.length ≤ 800000) : Calls Tryz.prog 14 #[.pointer (some ⟨jb, 0, none⟩), sv] w fun e w' => ∃ pv, e = .returned (.tuple #[pv, .int .i64 (jput g a d L).e]) ∧ PutN W w jb b F fv g (jput g a d L) pv w' :=
  put_any h hV l L hL sv hlen (hi.below h.bel) (fun w' ho => hi.below (h.bel.trans (ho.below h.bel.size fun k hk => (h.dv.lt k hk).1))) hS hT hLn
theorem fail_law (h : Jn W w jb b F d g a fv) (n : Int) (hn : De.I64 n) : Calls Tryz.prog 13 #[.pointer (some ⟨b, 0, none⟩), .int .i64 n] w fun e w' => ∃ F', e = .returned (.tuple #[]) ∧ Jn W w' jb b F' { d with F := n } g a fv ∧ Only F w w' ∧ ∀ k, F' k → F k ∨ w.heap.size ≤ k :=
  (De.dv_fail h.dv n hn).mono fun e w' ⟨F', he, hd, ho, hk⟩ => ⟨F', he, h.dev hd ho hk rfl, ho, hk⟩
end
theorem parts_val {L : List It} (h : mayBe L = true) : 1 ≤ partsN L ∧ partsN L ≤ 3 := by
  have := parts_pos h
  unfold partsN
  rw [h]
  simp only [if_true]
  omega
theorem Pl.Gm.total {g : Pl.Gm} (h : g.Ok) : ∃ t : Nat, 4 + g.s * g.l = (t : Int) ∧ 1 ≤ t ∧ t ≤ 1024 := by
  obtain ⟨-, h1, h2, -⟩ := h
  have a1 : 0 ≤ g.s * g.l := Int.mul_nonneg (by omega) (by omega)
  have a2 : g.s * g.l ≤ 16 * 32 := Int.mul_le_mul (by omega) (by omega) (by omega) (by omega)
  exact ⟨(4 + g.s * g.l).toNat, by omega, by omega, by omega⟩

end Go.Proofs.YthlnmdihdcfphaaGreatDoor
namespace Go.Proofs.YthlnmdihdcfphaaGreatDoor
set_option linter.unusedSimpArgs false
set_option linter.unusedVariables false
open Go.RowKit

/-- How many sectors the reference says there are. -/
def tot (g : Pl.Gm) : Int := if g.Ok then 4 + g.s * g.l else 0
theorem field35m (a b c : Int) (w : World) : (Instr.field 35 (.agg #[.int .i64 a, .int .i64 b, .int .i64 c]) 1).run Tryz.prog w = .ok (.int .i64 b) w := by kernel_rfl

end Go.Proofs.YthlnmdihdcfphaaGreatDoor
namespace Go.Proofs.YthlnmdihdcfphaaGreatDoor
set_option linter.unusedSimpArgs false
set_option linter.unusedVariables false
open Go.RowKit

def SX : List Int := (imgI 3 1).blk.sec 77
/-- Another block is turned, none of the journal's. -/
theorem Jn.other {W w w' : World} {jb b kb : Nat} {F : Nat → Prop} {d : De.D} {g : Pl.Gm} {a : Ja} {fv : Value} (h : Jn W w jb b F d g a fv) (ho : Only (fun k => k = kb) w w') (hW : W.heap.size ≤ kb) (hF : ¬ F kb) (hj : ¬ kb = jb) (hs : ∀ b' o n c, fv = .slice (some ⟨b', o, none⟩) n c → ¬ b' = kb) : Jn W w' jb b F d g a fv :=
  h.turnS ho (fun k hk => by rw [hk]; exact hW) (fun k hk e => hF (by rw [← e]; exact hk)) (h.blk.only ho fun e => hj e.symm) (h.fr.onlyF ho fun b' o n c e hk => hs b' o n c e hk)
    (fun b' o n c e => let ⟨h1, h2, h3, h4⟩ := h.sep b' o n c e; ⟨h1, h2, h3, Nat.lt_of_lt_of_le h4 ho.size⟩) h.good h.seq h.cp

end Go.Proofs.YthlnmdihdcfphaaGreatDoor
namespace Go.Proofs.YthlnmdihdcfphaaGreatDoor
set_option linter.unusedSimpArgs false
set_option linter.unusedVariables false
open Go.RowKit

theorem freeOk_not {g : Pl.Gm} {seg : Int} {l : List Int} (h : freeOk g seg l = true) : seg ∉ l := fun hm => by
  obtain ⟨i, hi⟩ := List.getElem?_of_mem hm
  have hil := (List.getElem?_eq_some_iff.1 hi).1
  have := freeOk_at h i hil
  unfold okAt at this
  simp only [Bool.and_eq_true, Bool.not_eq_true', decide_eq_false_iff_not] at this
  exact this.1.2 (by rw [List.getD_eq_getElem?_getD, hi]; rfl)
/-- Where the so-manieth sector of a segment lies. -/
theorem place_of {l s c : Int} (hl : 0 < l) (h0 : 0 ≤ c) (h1 : c < l) : (s * l + c) / l = s ∧ (s * l + c) % l = c := by
  constructor
  · rw [Int.add_comm, Int.add_mul_ediv_right _ _ (by omega), Int.ediv_eq_zero_of_lt h0 h1]
    omega
  · rw [Int.add_comm, Int.add_mul_emod_self_right, Int.emod_eq_of_lt h0 h1]
/-- A place that a journal has behind it. -/
def metOk (g : Pl.Gm) (a : Ja) (p : Int) : Prop := ((p - 4) / g.l = a.seg ∧ (p - 4) % g.l < a.off) ∨ (¬ (p - 4) / g.l = a.seg ∧ (p - 4) / g.l ∉ a.free)
/-- Where the next group goes: where the journal is, or the first free segment. -/
def Step1 (a a1 : Ja) : Prop := a1 = a ∨ ∃ f r, a.free = f :: r ∧ a1 = ⟨f, 0, a.seq, r⟩
theorem nextP_step {g : Pl.Gm} {a a1 : Ja} {n : Nat} (e : nextP g a n = some a1) : Step1 a a1 := by
  unfold nextP at e
  split at e
  · injection e with e
    exact .inl e.symm
  · split at e
    · cases e
    · rename_i f r hf
      injection e with e
      exact .inr ⟨f, r, hf, e.symm⟩
theorem first_place {g : Pl.Gm} {a a1 : Ja} {n : Nat} (h : Nx g a a1 n) {x : Int} (h0 : 0 ≤ x) (h1 : x < n) : (firstOf g a1 + x - 4) / g.l = a1.seg ∧ (firstOf g a1 + x - 4) % g.l = a1.off + x := by
  have := h.off
  have e : firstOf g a1 + x - 4 = a1.seg * g.l + (a1.off + x) := by unfold firstOf; omega
  rw [e]
  exact place_of (by omega) (by omega) (by omega)
theorem met_dis {g : Pl.Gm} {a a1 : Ja} {n : Nat} (hg : a.good g = true) (h : Nx g a a1 n) (hs : Step1 a a1) {x p : Int} (h0 : 0 ≤ x) (h1 : x < n) (hm : metOk g a p) : ¬ p = firstOf g a1 + x := by
  rintro rfl
  obtain ⟨e1, e2⟩ := first_place h h0 h1
  unfold metOk at hm
  rw [e1, e2] at hm
  rcases hs with rfl | ⟨f, r, hf, rfl⟩
  · rcases hm with ⟨-, hm⟩ | ⟨hm, -⟩
    · omega
    · exact hm rfl
  · have hno := freeOk_not (Ja.good_parts hg).2.2.2.2
    rw [hf] at hno hm
    rcases hm with ⟨hm, -⟩ | ⟨-, hm⟩
    · exact hno (by rw [← show f = a.seg from hm]; exact List.mem_cons_self)
    · exact hm List.mem_cons_self
theorem met_old {g : Pl.Gm} {a a1 : Ja} {n : Nat} (hg : a.good g = true) (h : Nx g a a1 n) (hs : Step1 a a1) {p q : Int} (hm : metOk g a p) : metOk g ⟨a1.seg, a1.off + n, q, a1.free⟩ p := by
  unfold metOk at hm ⊢
  rcases hs with rfl | ⟨f, r, hf, rfl⟩
  · rcases hm with ⟨h1, h2⟩ | hm
    · exact .inl ⟨h1, by simp only; omega⟩
    · exact .inr hm
  · have hfo := (Ja.good_parts hg).2.2.2.2
    have hno := freeOk_not hfo
    rw [hf] at hno hm hfo
    have hfr := freeOk_not (freeOk_tail hfo).2
    simp only
    rcases hm with ⟨h1, h2⟩ | ⟨h1, h2⟩
    · rw [h1]
      exact .inr ⟨fun e => hno (by rw [e]; exact List.mem_cons_self), fun e => hno (List.mem_cons_of_mem _ e)⟩
    · exact .inr ⟨fun e => h2 (by rw [e]; exact List.mem_cons_self), fun e => h2 (List.mem_cons_of_mem _ e)⟩
theorem met_new {g : Pl.Gm} {a a1 : Ja} {n : Nat} (h : Nx g a a1 n) {x q : Int} (h0 : 0 ≤ x) (h1 : x < n) : metOk g ⟨a1.seg, a1.off + n, q, a1.free⟩ (firstOf g a1 + x) := by
  obtain ⟨e1, e2⟩ := first_place h h0 h1
  unfold metOk
  rw [e1, e2]
  exact .inl ⟨rfl, by simp only; omega⟩
/-- A Put on a device that doesn't fail. -/
theorem apart_put {g : Pl.Gm} {a : Ja} {d : De.D} (L : List It) (hg : a.good g = true) (ht : 4 + g.s * g.l ≤ (d.S.length : Int)) (hF : d.F < 0) :
    ((jput g a d L).e = 0 ∧ mayBe L = true ∧ (jput g a d L).d.F < 0 ∧ ∃ a1, Nx g a a1 (lay2 a.seq L).1.length ∧ Step1 a a1 ∧ (jput g a d L).pl = (lay2 a.seq L).2.map (plOf (firstOf g a1)) ∧ (jput g a d L).a = ⟨a1.seg, a1.off + (lay2 a.seq L).1.length, (a.seq + partsN L) % M32, a1.free⟩) ∨
    (((jput g a d L).e = 1 ∨ (jput g a d L).e = 14) ∧ (jput g a d L).pl = [] ∧ (jput g a d L).a = a ∧ (jput g a d L).d = d) := by
  cases hl : laid g a L
  · rw [jput_no hl]
    exact .inr ⟨.inl rfl, rfl, rfl, rfl⟩
  · cases hn : nextP g a (lay2 a.seq L).1.length with
    | none =>
      rw [jput_full hl hn]
      exact .inr ⟨.inr rfl, rfl, rfl, rfl⟩
    | some a1 =>
      obtain ⟨h1, h2, h3, h4, h5, h6, h7⟩ := jput_runs hg hl hn ht (.inl hF)
      exact .inl ⟨h1, (laid_parts hl).1, by rw [h7, if_pos hF]; exact hF, a1, nextP_nx hg (laid_parts hl).2 hn, nextP_step hn, h2, h3⟩
theorem step_odd {a a1 : Ja} (hs : Step1 a a1) (h1 : a.seg = 0 ∨ a.seg % 2 = 1) (h2 : ∀ x ∈ a.free, x % 2 = 1) : (a1.seg = 0 ∨ a1.seg % 2 = 1) ∧ ∀ x ∈ a1.free, x % 2 = 1 := by
  rcases hs with rfl | ⟨f, r, hf, rfl⟩
  · exact ⟨h1, h2⟩
  · rw [hf] at h2
    exact ⟨.inr (h2 f List.mem_cons_self), fun x hx => h2 x (List.mem_cons_of_mem _ hx)⟩
/-- How far JournalApart is: the journal, its device, the places that were met. -/
structure Ap (g : Pl.Gm) (t : Nat) (a : Ja) (d : De.D) (B : List Bool) (i : Nat) : Prop where
  F : d.F < 0
  S : d.S.length = t
  T : d.T ≤ 1025 * i
  L : d.L.length ≤ 1024 * i
  seq : 1 ≤ a.seq ∧ a.seq ≤ 1 + 3 * (i : Int)
  seg : a.seg = 0 ∨ a.seg % 2 = 1
  free : ∀ x ∈ a.free, x % 2 = 1
  len : B.length = t
  met : ∀ p : Nat, B[p]? = some true → metOk g a p
/-- The places of a group's first blocks. -/
def upto (P : List Int) (f k : Nat) (B0 B : List Bool) : Prop := B.length = B0.length ∧ ∀ p : Nat, B[p]? = some true → B0[p]? = some true ∨ ∃ j x, j < k ∧ P[j]? = some x ∧ 0 ≤ x ∧ (p : Int) = f + x
end Go.Proofs.YthlnmdihdcfphaaGreatDoor
namespace Go.Proofs.YthlnmdihdcfphaaGreatDoor
set_option linter.unusedSimpArgs false
set_option linter.unusedVariables false
open Go.RowKit

/-- A slice of slices of items. -/
def GroupsAt (w : World) (sv : Value) (l : List (Value × List (It × Value))) : Prop := ∃ a cap, sv = .slice a l.length cap ∧ ∀ i x, l[i]? = some x → ∃ b o, a = some ⟨b, o, none⟩ ∧ w.cell? ⟨b, o + i, none⟩ = some x.1 ∧ ItemsAt w x.1 x.2 ∧ x.2.length ≤ 9223372036854775807
theorem GroupsAt.below {w w' : World} {sv : Value} {l : List (Value × List (It × Value))} (h : GroupsAt w sv l) (hb : Below w.heap.size w w') : GroupsAt w' sv l := by
  obtain ⟨a, cap, e, hc⟩ := h
  refine ⟨a, cap, e, fun i x hx => ?_⟩
  obtain ⟨b, o, e2, h2, h3, h4⟩ := hc i x hx
  exact ⟨b, o, e2, (hb.cell (block_lt_of_cell h2)).trans h2, h3.below hb, h4⟩
theorem Ap.skip {g : Pl.Gm} {t : Nat} {a : Ja} {d : De.D} {B : List Bool} {i : Nat} (h : Ap g t a d B i) : Ap g t a d B (i + 1) :=
  ⟨h.F, h.S, by have := h.T; omega, by have := h.L; omega, by have := h.seq; push_cast; omega, h.seg, h.free, h.len, h.met⟩
theorem seq_step {s q : Int} {i : Nat} (h : 1 ≤ s ∧ s ≤ 1 + 3 * (i : Int)) (hi : i ≤ 40) (hq : 1 ≤ q ∧ q ≤ 3) : (s + q) % M32 = s + q := Int.emod_eq_of_lt (by omega) (by unfold M32; omega)
theorem Ap.ok {g : Pl.Gm} {t : Nat} {a a1 : Ja} {d d' : De.D} {B B' : List Bool} {i n f k : Nat} {P : List Int} {q : Int} (h : Ap g t a d B i) (hi : i ≤ 40) (hg : a.good g = true) (hnx : Nx g a a1 n) (hs : Step1 a a1) (hf : firstOf g a1 = (f : Int)) (hq : 1 ≤ q ∧ q ≤ 3) (hF : d'.F < 0)
    (hS : d'.S.length = d.S.length) (hT : d'.T ≤ d.T + 1025) (hL : d'.L.length ≤ d.L.length + 1024) (hu : upto P f k B B') (hP : ∀ (j : Nat) (x : Int), P[j]? = some x → x < (n : Int)) : Ap g t ⟨a1.seg, a1.off + n, (a.seq + q) % M32, a1.free⟩ d' B' (i + 1) := by
  obtain ⟨s1, s2⟩ := step_odd hs h.seg h.free
  have hsq := seq_step h.seq hi hq
  refine ⟨hF, hS.trans h.S, by have := h.T; omega, by have := h.L; omega, ?_, s1, s2, hu.1.trans h.len, fun p hp => ?_⟩
  · have := h.seq
    simp only
    rw [hsq]
    push_cast
    omega
  · rcases hu.2 p hp with h1 | ⟨j, x, -, h2, h3, h4⟩
    · exact met_old hg hnx hs (h.met p h1)
    · rw [h4, ← hf]
      exact met_new hnx h3 (hP j x h2)
end Go.Proofs.YthlnmdihdcfphaaGreatDoor
