/- Package journal: Put. -/
import Derived.Test.YtmlniannilnmhaaGreatDoorJh
namespace Go.Proofs.YtmlniannilnmhaaGreatDoor
set_option linter.unusedSimpArgs false
set_option linter.unusedVariables false
open Go.RowKit

section
variable {W w : World} {jb b : Nat} {F : Nat → Prop} {d : De.D} {g : Pl.Gm} {a : Ja} {fv : Value}
theorem putE_any (h : Jn W w jb b F d g a fv) (hV : Vars W) (l : List (It × Value)) (L : List It) (hL : l.map (·.1) = L) (sv : Value) (hlen : l.length < 100000) (hi : ItemsAt w sv l) (hit : ∀ w', Only F w w' → ItemsAt w' sv l)
    (hS : d.S.length ≤ 1024) (hT : d.T ≤ 800000) (hLn : d.L.length ≤ 800000) : Calls Tryz.prog 46 #[.pointer (some ⟨jb, 0, none⟩), sv] w fun e w' => ∃ pv ev, e = .returned (.tuple #[pv, ev]) ∧ PutOut W w jb b F fv g (jput g a d L) pv ev w' := by
  cases hy : laid g a L
  · exact put_no h l L hL sv hlen hi hy
  · cases hx : nextP g a (lay2 a.seq L).1.length with
    | none => exact put_full h l L hL sv hlen hi hy hx
    | some a1 => exact put_go h hV l L hL sv hlen hi hit hy a1 hx hS hT hLn
/-- A Put: the number, the places, where the journal is, the device. -/
def PutN (W w : World) (jb b : Nat) (F : Nat → Prop) (fv : Value) (g : Pl.Gm) (p : Pr) (pv : Value) (w' : World) : Prop :=
  ∃ F' fv', OwnN w' w.heap.size pv p.pl ∧ Jn W w' jb b F' p.d g p.a fv' ∧ Only (fun k => F k ∨ k = jb) w w' ∧ (∀ k, F' k → F k ∨ w.heap.size ≤ k) ∧ (∀ k, pv.ownBlock = some k → ¬ F' k ∧ k ≠ jb) ∧ Src fv fv'
set_option maxRecDepth 100000 in
theorem put_any (h : Jn W w jb b F d g a fv) (hV : Vars W) (l : List (It × Value)) (L : List It) (hL : l.map (·.1) = L) (sv : Value) (hlen : l.length < 100000) (hi : ItemsAt w sv l) (hit : ∀ w', Only F w w' → ItemsAt w' sv l)
    (hS : d.S.length ≤ 1024) (hT : d.T ≤ 800000) (hLn : d.L.length ≤ 800000) : Calls Tryz.prog 19 #[.pointer (some ⟨jb, 0, none⟩), sv] w fun e w' => ∃ pv, e = .returned (.tuple #[pv, .int .i64 (jput g a d L).e]) ∧ PutN W w jb b F fv g (jput g a d L) pv w' := by
  have HP := Lib.hid (putE_any h hV l L hL sv hlen hi hit hS hT hLn)
  have HV := Lib.hid hV
  obtain ⟨sa, sc, hsv⟩ := items_one hi
  obtain ⟨m, hm⟩ : ∃ m, l.length = m := ⟨_, rfl⟩
  rw [hm] at hsv
  subst hsv
  obtain ⟨p, hp⟩ : ∃ p, jput g a d L = p := ⟨_, rfl⟩
  rw [hp] at HP ⊢
  clear h hV hL hlen hi hit hS hT hLn hm hp
  go_enter Tryz.func19, Tryz.ntmps19
  go_wp2_with fail
  refine HP.out.mono ?_
  rintro e w1 ⟨pv, ev, rfl, F', fv', he, ho, hj, hon, hn, hpa, hsr⟩
  have HO := Lib.hid ho
  have HJ := Lib.hid hj
  have HON := Lib.hid hon
  have HN := Lib.hid hn
  have HPA := Lib.hid hpa
  have HSR := Lib.hid hsr
  have HVA := Lib.hid (Vars.below (Nat.le_refl _) hj.dv.2 HV.out)
  obtain ⟨pa, pc, hpv⟩ := ho.ints.form
  obtain ⟨pn, hpn⟩ : ∃ n, p.pl.length = n := ⟨_, rfl⟩
  rw [hpn] at hpv
  subst hpv
  clear ho hj hon hn hpa hsr hpn HP
  rcases he with ⟨h0, rfl⟩ | ⟨h0, hf⟩
  · have H0 := Lib.hid h0
    clear h0
    go_wp2_with fail
    refine (of_nil _).mono ?_
    rintro e w2 ⟨rfl, rfl⟩
    go_wp2_with fail
    first | go_ret2 | go_ret
    exact ⟨.slice pa pn pc, by rw [H0.out]; rfl, F', fv', HO.out, HJ.out, HON.out, HN.out, HPA.out, HSR.out⟩
  · have HF := Lib.hid hf
    obtain ⟨T, dd, hv⟩ := hf.shape
    subst hv
    clear hf h0
    go_wp2_with fail
    refine (of_fault _ _ _ HVA.out HF.out).mono ?_
    rintro e w2 ⟨rfl, hb⟩
    have HB := Lib.hid hb
    clear hb
    go_wp2_with fail
    first | go_ret2 | go_ret
    exact ⟨_, rfl, F', fv', HO.out.below HB.out, HJ.out.below HB.out, HON.out.trans (Only.of_below HB.out), HN.out, HPA.out, HSR.out⟩
end

end Go.Proofs.YtmlniannilnmhaaGreatDoor
