/- A Put of one image, and what is read of it. -/
import Derived.Test.YtmlniannilnmhaaGreatDoorKm
import Derived.Test.YtmlniannilnmhaaGreatDoorKc
namespace Go.Proofs.YtmlniannilnmhaaGreatDoor
set_option linter.unusedSimpArgs false
set_option linter.unusedVariables false
open Go.RowKit

def SL : List It := [imgI 3 1]
theorem SL_may : mayBe SL = true := mayBe_iff.2 ⟨by decide, by decide, fun x hx => by
  obtain rfl := List.mem_singleton.1 hx
  exact imgI_ok (by decide), by decide⟩
theorem SL_len (n : Int) : (lay2 n SL).1.length = 2 := by rw [lay2_length]; decide
theorem SL_at (n : Int) : (lay2 n SL).2 = [1] := rfl
theorem SL_parts : partsN SL = 1 := by unfold partsN; rw [SL_may]; rfl
def SX : List Int := (imgI 3 1).blk.sec 77
theorem SX_2 : SX[2]? = some 77 := by decide
theorem SX_64 : SX.length = 64 := by decide
theorem SL_two : ∃ x, (lay2 77 SL).1 = [x, SX] := ⟨_, rfl⟩
/-- What lies in the second of two sectors that were written. -/
theorem wr_two (t f : Nat) (h : f + 2 ≤ t) (x y : List Int) : (wrAll (De.newD t) f [x, y]).1.read ((f + 1 : Nat) : Int) = (u8s y).toArray ∧ (wrAll (De.newD t) f [x, y]).1.readE ((f + 1 : Nat) : Int) = 0 := by
  have hl : (De.newD t).S.length = t := newD_len t
  have h1 : (De.newD t).has (f : Int) = true := by
    unfold De.D.has
    rw [hl]
    simp only [Bool.and_eq_true, decide_eq_true_eq]
    omega
  have hF : ¬ (De.newD t).F = 0 := by show ¬ (-1 : Int) = 0; decide
  have e1 : (De.newD t).writeE (f : Int) = 0 := by unfold De.D.writeE; rw [if_pos h1, if_neg hF]
  have w1 : (De.newD t).write (f : Int) (u8s x).toArray = ⟨(De.newD t).S, [(f, (u8s x).toArray)], -1, 1⟩ := by
    unfold De.D.write
    rw [if_pos h1, if_neg hF]
    rfl
  have h2 : (⟨(De.newD t).S, [(f, (u8s x).toArray)], -1, 1⟩ : De.D).has ((f : Int) + 1) = true := by
    unfold De.D.has
    simp only [hl, Bool.and_eq_true, decide_eq_true_eq]
    omega
  have hF2 : ¬ (⟨(De.newD t).S, [(f, (u8s x).toArray)], -1, 1⟩ : De.D).F = 0 := by show ¬ (-1 : Int) = 0; decide
  have e2 : (⟨(De.newD t).S, [(f, (u8s x).toArray)], -1, 1⟩ : De.D).writeE ((f : Int) + 1) = 0 := by unfold De.D.writeE; rw [if_pos h2, if_neg hF2]
  have w2 : (⟨(De.newD t).S, [(f, (u8s x).toArray)], -1, 1⟩ : De.D).write ((f : Int) + 1) (u8s y).toArray = ⟨(De.newD t).S, [(f, (u8s x).toArray), (f + 1, (u8s y).toArray)], -1, 2⟩ := by
    unfold De.D.write
    rw [if_pos h2, if_neg hF2]
    rfl
  have hw : wrs (De.newD t) f [x, y] = (⟨(De.newD t).S, [(f, (u8s x).toArray), (f + 1, (u8s y).toArray)], -1, 2⟩, true) := by
    simp only [wrs]
    rw [if_pos e1, w1, if_pos e2, w2]
  have ha : (wrAll (De.newD t) f [x, y]).1 = ⟨((De.newD t).S.set f (u8s x).toArray).set (f + 1) (u8s y).toArray, [], -1, 3⟩ := by
    unfold wrAll
    rw [hw]
    rfl
  rw [ha]
  have hh : (⟨((De.newD t).S.set f (u8s x).toArray).set (f + 1) (u8s y).toArray, [], -1, 3⟩ : De.D).has ((f + 1 : Nat) : Int) = true := by
    unfold De.D.has
    simp only [List.length_set, hl, Bool.and_eq_true, decide_eq_true_eq]
    omega
  constructor
  · unfold De.D.read
    rw [if_pos hh]
    show (((De.newD t).S.set f (u8s x).toArray).set (f + 1) (u8s y).toArray).getD (f + 1) _ = _
    rw [List.getD_eq_getElem?_getD, List.getElem?_set_self (by rw [List.length_set, hl]; omega)]
    rfl
  · unfold De.D.readE
    rw [if_pos hh]
/-- A Put of one image. -/
theorem sets_put {g : Pl.Gm} {a : Ja} {t : Nat} (hg : a.good g = true) (hq : a.seq = 77) (ht : 4 + g.s * g.l = (t : Int)) :
    (∃ f : Nat, f ≤ 1024 ∧ (jput g a (De.newD t) SL).e = 0 ∧ (jput g a (De.newD t) SL).pl = [(f : Int)] ∧ (jput g a (De.newD t) SL).a.seq = 78 ∧ (jput g a (De.newD t) SL).d.read f = (u8s SX).toArray ∧ (jput g a (De.newD t) SL).d.readE f = 0) ∨
    ((jput g a (De.newD t) SL).e = 14 ∧ a.free = [] ∧ (jput g a (De.newD t) SL).pl = []) := by
  have hgl := (Ja.good_parts hg).1.2.2.1
  have hlaid : laid g a SL = true := laid_of SL_may (by rw [SL_len]; show ((2 : Nat) : Int) ≤ g.l; omega)
  cases hn : nextP g a (lay2 a.seq SL).1.length with
  | none =>
    right
    rw [jput_full hlaid hn]
    refine ⟨rfl, ?_, rfl⟩
    unfold nextP at hn
    split at hn
    · cases hn
    · split at hn
      · assumption
      · cases hn
  | some a1 =>
    left
    obtain ⟨h1, h2, h3, h4, h5, h6, h7⟩ := jput_runs (d := De.newD t) hg hlaid hn (by rw [newD_len]; omega) (.inl (by show (-1 : Int) < 0; decide))
    have hnx := nextP_nx hg (laid_parts hlaid).2 hn
    obtain ⟨f, hf, hf4, hfn⟩ := hnx.first
    rw [SL_len] at hfn
    have hft : f + 2 ≤ t := by omega
    obtain ⟨g0, g1, -⟩ := wrAll_run (De.newD t) (firstOf g a1) (lay2 a.seq SL).1 (by omega) (by rw [newD_len, SL_len, hf]; omega) (.inl (by show (-1 : Int) < 0; decide))
    have hd : (jput g a (De.newD t) SL).d = (wrAll (De.newD t) (f : Int) (lay2 77 SL).1).1 := by rw [jput_ok hlaid hn g0, hf, hq]
    obtain ⟨x, hx⟩ := SL_two
    obtain ⟨r1, r2⟩ := wr_two t f hft x SX
    rw [hx] at hd
    obtain ⟨t2, ht2, -, ht3⟩ := Pl.Gm.total (Ja.good_parts hg).1
    refine ⟨f + 1, by omega, h1, ?_, ?_, by rw [hd]; exact r1, by rw [hd]; exact r2⟩
    · rw [h2, SL_at, hf]
      show [plOf (f : Int) 1] = _
      unfold plOf
      rw [if_pos (by decide)]
      push_cast
      rfl
    · rw [h3, SL_parts, hq]
      rfl
theorem setFree_free (g : Pl.Gm) (a : Ja) (l : List Int) : a.setFree g l = { a with free := (a.setFree g l).free } := by
  unfold Ja.setFree
  split <;> rfl
theorem field27f (a b c : Int) (x : Option Addr) (n m : Nat) (w : World) : (Instr.field 27 (.agg #[.int .i64 a, .int .i64 b, .int .u32 c, .slice x n m]) 3).run Tryz.prog w = .ok (.slice x n m) w := by kernel_rfl
/-- Another block is turned, none of the journal's. -/
theorem Jn.other {W w w' : World} {jb b kb : Nat} {F : Nat → Prop} {d : De.D} {g : Pl.Gm} {a : Ja} {fv : Value} (h : Jn W w jb b F d g a fv) (ho : Only (fun k => k = kb) w w') (hW : W.heap.size ≤ kb) (hF : ¬ F kb) (hj : ¬ kb = jb) (hs : ∀ b' o n c, fv = .slice (some ⟨b', o, none⟩) n c → ¬ b' = kb) : Jn W w' jb b F d g a fv :=
  h.turnS ho (fun k hk => by rw [hk]; exact hW) (fun k hk e => hF (by rw [← e]; exact hk)) (h.blk.only ho fun e => hj e.symm) (h.fr.onlyF ho fun b' o n c e hk => hs b' o n c e hk)
    (fun b' o n c e => let ⟨h1, h2, h3, h4⟩ := h.sep b' o n c e; ⟨h1, h2, h3, Nat.lt_of_lt_of_le h4 ho.size⟩) h.good h.seq h.cp

end Go.Proofs.YtmlniannilnmhaaGreatDoor
