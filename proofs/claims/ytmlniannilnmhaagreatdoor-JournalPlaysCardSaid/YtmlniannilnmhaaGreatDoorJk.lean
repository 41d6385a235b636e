/- Puts that go through and that fail; the first call's journal. -/
import Derived.Test.YtmlniannilnmhaaGreatDoorJi
namespace Go.Proofs.YtmlniannilnmhaaGreatDoor
set_option linter.unusedSimpArgs false
set_option linter.unusedVariables false
open Go.RowKit

abbrev nb : Value := .slice none 0 0
def markI (k id : Int) : It := ⟨(k, id), Bk.none⟩
theorem built102m (k id : Int) : Tryz.prog.built 102 [(0, .agg #[.int .i64 k, .int .i64 id])] = some ((markI k id).arr (.slice none 0 0)) := by kernel_rfl
theorem markI_wf {k id : Int} (h : Small k) (h2 : Small id) : (markI k id).Wf := ⟨h, h2, none_wf⟩
theorem imgI_ok {id v : Int} (h : 0 ≤ id ∧ id < 64) : (imgI id v).ok = true := by
  have h1 : okMark (1, id) = true := okMark_iff.2 ⟨by simp, by simp, h.1, h.2, by intro e; simp at e⟩
  have h2 : within id 0 63 = true := by simp [within]; omega
  simp [It.ok, It.fits, It.has, imgI, imgB, h1, hasBlock, Bk.good, Bk.plain, h2]
theorem markI_ok {k id : Int} (hk : k = 4 ∨ k = 5) (h : 0 ≤ id ∧ id < 64) : (markI k id).ok = true := by
  have h1 : okMark (k, id) = true := okMark_iff.2 ⟨by simp only; omega, by simp only; omega, h.1, h.2, by intro e; simp only at e; omega⟩
  have h3 : hasBlock k = false := by simp [hasBlock]; omega
  simp [It.ok, It.fits, It.has, markI, h1, h3, (by decide : Bk.none.isZ = true)]
theorem byteN (n : Nat) (h : n < 256) : Byte (n : Int) := ⟨by omega, by omega⟩
theorem smallN (n : Nat) (h : n < 1000) : Small (n : Int) := ⟨by omega, by omega⟩
theorem seqN (n : Nat) (h : n < 1000) : Seq32 (n : Int) := ⟨by omega, by simp only [M32]; omega⟩
theorem lit1_run (W : World) {x : It} (hx : x.Wf) : (Instr.buildSlice 51 1 #[(0, .agg (x.arr nb))]).run Tryz.prog W = .ok (.slice (some ⟨W.heap.size, 0, none⟩) 1 1) (W.alloc (.cells (itCells [(x, nb)]).toArray 102)) := run_litI W [(x, nb)] (fun y hy => by obtain rfl := List.mem_singleton.1 hy; exact hx) (by simp) (by simp)
theorem lit2_run (W : World) {x y : It} (hx : x.Wf) (hy : y.Wf) : (Instr.buildSlice 51 2 #[(0, .agg (x.arr nb)), (1, .agg (y.arr nb))]).run Tryz.prog W = .ok (.slice (some ⟨W.heap.size, 0, none⟩) 2 2) (W.alloc (.cells (itCells [(x, nb), (y, nb)]).toArray 102)) := run_litI W [(x, nb), (y, nb)] (fun z hz => by simp at hz; rcases hz with rfl | rfl; exact hx; exact hy) (by simp) (by simp)
/-- A literal of items without bytes: it is there as long as the device alone is turned. -/
theorem lit_its (W : World) {l : List (It × Value)} (h : ∀ x ∈ l, x.1.Wf ∧ x.2 = nb ∧ x.1.blk.bytes = []) (n : Nat) (hn : l.length = n) (hl : n ≤ 1000) {F : Nat → Prop} (hF : ∀ k, F k → k < W.heap.size) :
    ItemsAt (W.alloc (.cells (itCells l).toArray 102)) (.slice (some ⟨W.heap.size, 0, none⟩) n n) l ∧ ∀ w', Only F (W.alloc (.cells (itCells l).toArray 102)) w' → ItemsAt w' (.slice (some ⟨W.heap.size, 0, none⟩) n n) l := by
  subst hn
  have h1 := (OwnI.lit (w := W) (fun x hx => (h x hx).1) (fun x hx => by obtain ⟨-, h2, h3⟩ := h x hx; rw [h2, h3]; exact BytesAt.nil _ _ _) hl).items
  refine ⟨h1, fun w' ho => h1.onlyF ho (fun b o n c e hb => ?_) fun x hx b o n c e => ?_⟩
  · cases e
    have := hF _ hb
    omega
  · rw [(h x hx).2.1] at e
    cases e
/-- A device that fails later than all this, or not at all. -/
theorem wrs_run (d : De.D) (i : Int) (X : List (List Int)) (h0 : 0 ≤ i) (h1 : i + (X.length : Nat) ≤ d.S.length) (hF : d.F < 0 ∨ ((X.length : Nat) : Int) ≤ d.F) :
    (wrs d i X).2 = true ∧ (wrs d i X).1.S = d.S ∧ (wrs d i X).1.T = d.T + X.length ∧ (wrs d i X).1.F = (if d.F < 0 then d.F else d.F - (X.length : Nat)) := by
  induction X generalizing d i with
  | nil =>
    refine ⟨rfl, rfl, rfl, ?_⟩
    show d.F = _
    split <;> simp
  | cons x r ih =>
    simp only [List.length_cons] at h1 hF
    have hh : d.has i = true := by
      unfold De.D.has
      simp only [Bool.and_eq_true, decide_eq_true_eq]
      omega
    have hf : ¬ d.F = 0 := by omega
    have he : d.writeE i = 0 := by unfold De.D.writeE; rw [if_pos hh, if_neg hf]
    have hw : d.write i (u8s x).toArray = { d with F := d.nextF, T := d.T + 1, L := d.L ++ [(i.toNat, (u8s x).toArray)] } := by unfold De.D.write; rw [if_pos hh, if_neg hf]
    have hn : d.nextF = if d.F < 0 then d.F else d.F - 1 := rfl
    unfold wrs
    rw [if_pos he, hw]
    obtain ⟨k1, k2, k3, k4⟩ := ih { d with F := d.nextF, T := d.T + 1, L := d.L ++ [(i.toNat, (u8s x).toArray)] } (i + 1) (by omega) (by simp only; omega) (by simp only; rw [hn]; split <;> omega)
    refine ⟨k1, k2, ?_, ?_⟩
    · rw [k3, List.length_cons]; simp only; omega
    · rw [k4]
      simp only
      rw [hn, List.length_cons]
      by_cases h : d.F < 0
      · simp only [if_pos h]
      · simp only [if_neg h]
        rw [if_neg (by omega)]
        omega
theorem wrAll_run (d : De.D) (i : Int) (X : List (List Int)) (h0 : 0 ≤ i) (h1 : i + (X.length : Nat) ≤ d.S.length) (hF : d.F < 0 ∨ ((X.length + 1 : Nat) : Int) ≤ d.F) :
    (wrAll d i X).2 = true ∧ (wrAll d i X).1.L = [] ∧ (wrAll d i X).1.T = d.T + X.length + 1 ∧ (wrAll d i X).1.F = (if d.F < 0 then d.F else d.F - ((X.length + 1 : Nat) : Int)) := by
  obtain ⟨k1, k2, k3, k4⟩ := wrs_run d i X h0 h1 (by omega)
  have hf : ¬ (wrs d i X).1.F = 0 := by rw [k4]; split <;> omega
  unfold wrAll
  rw [if_pos k1]
  have e1 : (wrs d i X).1.flushE = 0 := by unfold De.D.flushE; rw [if_neg hf]
  have e2 : (wrs d i X).1.flush = { (wrs d i X).1 with F := (wrs d i X).1.nextF, T := (wrs d i X).1.T + 1, S := De.app (wrs d i X).1.S (wrs d i X).1.L, L := [] } := by unfold De.D.flush; rw [if_neg hf]
  rw [e1, e2]
  refine ⟨rfl, rfl, by simp only; omega, ?_⟩
  simp only
  unfold De.D.nextF
  rw [k4]
  by_cases h : d.F < 0
  · simp only [if_pos h]
  · simp only [if_neg h]
    rw [if_neg (by omega)]
    omega
/-- A Put that goes through. -/
theorem jput_runs {g : Pl.Gm} {a a1 : Ja} {d : De.D} {L : List It} (hg : a.good g = true) (hl : laid g a L = true) (hn : nextP g a (lay2 a.seq L).1.length = some a1) (ht : 4 + g.s * g.l ≤ (d.S.length : Int)) (hF : d.F < 0 ∨ (((lay2 a.seq L).1.length + 1 : Nat) : Int) ≤ d.F) :
    (jput g a d L).e = 0 ∧ (jput g a d L).pl = (lay2 a.seq L).2.map (plOf (firstOf g a1)) ∧ (jput g a d L).a = ⟨a1.seg, a1.off + (lay2 a.seq L).1.length, (a.seq + partsN L) % M32, a1.free⟩ ∧ (jput g a d L).d.L = [] ∧ (jput g a d L).d.T = d.T + (lay2 a.seq L).1.length + 1 ∧ (jput g a d L).d.S.length = d.S.length ∧ (jput g a d L).d.F = (if d.F < 0 then d.F else d.F - (((lay2 a.seq L).1.length + 1 : Nat) : Int)) := by
  obtain ⟨f, hf, hf4, hfn⟩ := (nextP_nx hg (laid_parts hl).2 hn).first
  obtain ⟨k1, k2, k3, k4⟩ := wrAll_run d (firstOf g a1) (lay2 a.seq L).1 (by omega) (by omega) hF
  rw [jput_ok hl hn k1]
  exact ⟨rfl, rfl, rfl, k2, k3, (wrAll_len d (firstOf g a1) (lay2 a.seq L).1).1, k4⟩
theorem newD_len (n : Nat) : (De.newD n).S.length = n := List.length_replicate
/-- The first call's journal. -/
def WG : Pl.Gm := ⟨16, 8, 24, 4⟩
def WA0 : Ja := ⟨1, 22, 5, [3, 4]⟩
def WA1 : Ja := ⟨1, 24, 6, [3, 4]⟩
def WA2 : Ja := ⟨3, 2, 7, [4]⟩
def WL1 : List It := [imgI 3 7]
def WL2 : List It := [imgI 4 8, markI 5 5]
theorem WL1_may : mayBe WL1 = true := mayBe_iff.2 ⟨by decide, by decide, fun x hx => by
  obtain rfl := List.mem_singleton.1 hx
  exact imgI_ok (by decide), by decide⟩
theorem WL2_may : mayBe WL2 = true := mayBe_iff.2 ⟨by decide, by decide, fun x hx => by
  simp only [WL2, List.mem_cons, List.not_mem_nil, or_false] at hx
  rcases hx with rfl | rfl
  · exact imgI_ok (by decide)
  · exact markI_ok (.inr rfl) (by decide), by decide⟩
theorem WL1_len (n : Int) : (lay2 n WL1).1.length = 2 := by rw [lay2_length]; decide
theorem WL2_len (n : Int) : (lay2 n WL2).1.length = 2 := by rw [lay2_length]; decide
theorem WL1_at (n : Int) : (lay2 n WL1).2 = [1] := rfl
theorem WL2_at (n : Int) : (lay2 n WL2).2 = [1, -1] := rfl
theorem WA0_good : WA0.good WG = true := by decide
theorem WA1_good : WA1.good WG = true := by decide
theorem WA2_good : WA2.good WG = true := by decide
theorem wk_put1 : (jput WG WA0 (De.newD 200) WL1).e = 0 ∧ (jput WG WA0 (De.newD 200) WL1).pl = [51] ∧ (jput WG WA0 (De.newD 200) WL1).a = WA1 ∧ (jput WG WA0 (De.newD 200) WL1).d.L = [] ∧ (jput WG WA0 (De.newD 200) WL1).d.T = 3 ∧ (jput WG WA0 (De.newD 200) WL1).d.S.length = 200 ∧ (jput WG WA0 (De.newD 200) WL1).d.F = -1 := by
  have hp : partsN WL1 = 1 := by unfold partsN; rw [WL1_may]; rfl
  have hl : laid WG WA0 WL1 = true := by unfold laid; rw [WL1_may, WL1_len]; decide
  have hn : nextP WG WA0 (lay2 WA0.seq WL1).1.length = some WA0 := by rw [WL1_len]; rfl
  obtain ⟨h1, h2, h3, h4, h5, h6, h7⟩ := jput_runs (d := De.newD 200) WA0_good hl hn (by rw [newD_len]; decide) (.inl (by decide))
  rw [WL1_len] at h3 h5 h7
  rw [WL1_at] at h2
  rw [hp] at h3
  exact ⟨h1, h2, h3, h4, h5, by rw [h6, newD_len], h7⟩
theorem wk_put2 {d : De.D} (hS : d.S.length = 200) (hF : d.F = -1) : (jput WG WA1 d WL2).e = 0 ∧ (jput WG WA1 d WL2).pl = [77, 0] ∧ (jput WG WA1 d WL2).a = WA2 ∧ (jput WG WA1 d WL2).d.L = [] := by
  have hp : partsN WL2 = 1 := by unfold partsN; rw [WL2_may]; rfl
  have hl : laid WG WA1 WL2 = true := by unfold laid; rw [WL2_may, WL2_len]; decide
  have hn : nextP WG WA1 (lay2 WA1.seq WL2).1.length = some ⟨3, 0, 6, [4]⟩ := by rw [WL2_len]; rfl
  obtain ⟨h1, h2, h3, h4, -⟩ := jput_runs (d := d) WA1_good hl hn (by rw [hS]; decide) (.inl (by omega))
  rw [WL2_len] at h3
  rw [WL2_at] at h2
  rw [hp] at h3
  exact ⟨h1, h2, h3, h4⟩

end Go.Proofs.YtmlniannilnmhaaGreatDoor
