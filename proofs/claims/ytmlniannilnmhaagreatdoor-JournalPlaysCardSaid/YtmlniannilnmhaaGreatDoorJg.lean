/- Package journal: a Put that puts nothing. -/
import Derived.Test.YtmlniannilnmhaaGreatDoorJp
namespace Go.Proofs.YtmlniannilnmhaaGreatDoor
set_option linter.unusedSimpArgs false
set_option linter.unusedVariables false
open Go.RowKit

/-- The error of a Put and its places. -/
def PutE (w : World) (n : Int) (v : Value) : Prop := (n = 0 ∧ v = .nilIface) ∨ ((n == 0) = false ∧ Fault w n v)
theorem PutE.below {w w' : World} {n : Int} {v : Value} (h : PutE w n v) (hb : Below w.heap.size w w') : PutE w' n v := h.elim .inl fun ⟨h1, h2⟩ => .inr ⟨h1, h2.below hb⟩
section
variable {W w : World} {jb b : Nat} {F : Nat → Prop} {d : De.D} {g : Pl.Gm} {a : Ja} {fv : Value}
theorem room_any (h : Jn W w jb b F d g a fv) (n : Nat) (a1 : Ja) (hx : nextP g a n = some a1) : Calls Tryz.prog 65 #[.pointer (some ⟨jb, 0, none⟩), .int .i64 n] w fun e w' => ∃ fv', e = .returned (.tuple #[.agg #[.int .i64 a1.seg, .int .i64 a1.off, .int .u32 a1.seq, fv'], .nilIface]) ∧ Room w' fv fv' a1 ∧ Below w.heap.size w w' := by
  unfold nextP at hx
  split at hx
  · rename_i hn
    injection hx with hx
    subst hx
    exact (room_here h n hn).mono fun e w' ⟨h1, h2, h3⟩ => ⟨fv, h1, h2, h3⟩
  · rename_i hn
    split at hx
    · cases hx
    · rename_i f r hf
      injection hx with hx
      subst hx
      exact room_next h n hn f r hf
/-- A slice's block is another one's. -/
def Src (fv fv' : Value) : Prop := ∀ b o n c, fv' = .slice (some ⟨b, o, none⟩) n c → ∃ o2 n2 c2, fv = .slice (some ⟨b, o2, none⟩) n2 c2
theorem Src.refl (fv : Value) : Src fv fv := fun b o n c e => ⟨o, n, c, e⟩
/-- What a Put leaves. -/
def PutOut (W w : World) (jb b : Nat) (F : Nat → Prop) (fv : Value) (g : Pl.Gm) (p : Pr) (pv ev : Value) (w' : World) : Prop :=
  ∃ F' fv', PutE w' p.e ev ∧ OwnN w' w.heap.size pv p.pl ∧ Jn W w' jb b F' p.d g p.a fv' ∧ Only (fun k => F k ∨ k = jb) w w' ∧ (∀ k, F' k → F k ∨ w.heap.size ≤ k) ∧ (∀ k, pv.ownBlock = some k → ¬ F' k ∧ k ≠ jb) ∧ Src fv fv'
theorem PutOut.same (h : Jn W w jb b F d g a fv) {w' : World} (hb : Below w.heap.size w w') {n : Int} (hn : (n == 0) = false) {ev : Value} (hf : Fault w' n ev) : PutOut W w jb b F fv g ⟨n, [], a, d⟩ (.slice none 0 0) ev w' :=
  ⟨F, fv, .inr ⟨hn, hf⟩, OwnN.nil _ _, h.below hb, Only.of_below hb, fun k hk => .inl hk, (fun k hk => by cases hk), Src.refl _⟩
set_option maxRecDepth 100000 in
theorem put_no (h : Jn W w jb b F d g a fv) (l : List (It × Value)) (L : List It) (hL : l.map (·.1) = L) (sv : Value) (hlen : l.length < 100000) (hi : ItemsAt w sv l) (hno : laid g a L = false) : Calls Tryz.prog 46 #[.pointer (some ⟨jb, 0, none⟩), sv] w fun e w' => ∃ pv ev, e = .returned (.tuple #[pv, ev]) ∧ PutOut W w jb b F fv g (jput g a d L) pv ev w' := by
  have HLA := Lib.hid (jlay_no h l L hL sv hlen hi hno)
  have HWF := Lib.hid fun v s w (h : Fault w 1 v) => wrap_fault 1 v s w h
  have HJ := Lib.hid h
  rw [jput_no hno]
  obtain ⟨sa, sc, hsv⟩ := items_one hi
  obtain ⟨m, hm⟩ : ∃ m, l.length = m := ⟨_, rfl⟩
  rw [hm] at hsv
  subst hsv
  clear h hL hlen hi hno hm
  go_enter Tryz.func46, Tryz.ntmps46
  go_wp2_with fail
  refine HLA.out.mono ?_
  rintro e w1 ⟨v, rfl, hf, hb⟩
  have HB := Lib.hid hb
  have HF := Lib.hid hf
  obtain ⟨T, dd, hv⟩ := hf.shape
  subst hv
  clear hf hb
  go_wp2_with fail
  refine (HWF.out _ _ _ HF.out).mono ?_
  rintro e w2 ⟨v2, rfl, hf, hb⟩
  have HB2 := Lib.hid (stay HB.out hb)
  have HF2 := Lib.hid hf
  obtain ⟨T2, dd2, hv⟩ := hf.shape
  subst hv
  clear hf hb
  go_wp2_with fail
  first | go_ret2 | go_ret
  exact ⟨_, _, rfl, PutOut.same HJ.out HB2.out rfl HF2.out⟩
set_option maxRecDepth 100000 in
theorem put_full (h : Jn W w jb b F d g a fv) (l : List (It × Value)) (L : List It) (hL : l.map (·.1) = L) (sv : Value) (hlen : l.length < 100000) (hi : ItemsAt w sv l) (hyes : laid g a L = true) (hx : nextP g a (lay2 a.seq L).1.length = none) : Calls Tryz.prog 46 #[.pointer (some ⟨jb, 0, none⟩), sv] w fun e w' => ∃ pv ev, e = .returned (.tuple #[pv, ev]) ∧ PutOut W w jb b F fv g (jput g a d L) pv ev w' := by
  have HLA := Lib.hid (jlay_yes h l L hL sv hlen hi hyes)
  have HWF := Lib.hid fun v s w (h : Fault w 14 v) => wrap_fault 14 v s w h
  have HJ := Lib.hid h
  rw [jput_full hyes hx]
  obtain ⟨sa, sc, hsv⟩ := items_one hi
  obtain ⟨m, hm⟩ : ∃ m, l.length = m := ⟨_, rfl⟩
  rw [hm] at hsv
  subst hsv
  obtain ⟨N, hN⟩ : ∃ N, (lay2 a.seq L).1.length = N := ⟨_, rfl⟩
  rw [hN] at hx
  have HNN := Lib.hid hN
  have hno : ¬ (N : Int) ≤ g.l - a.off ∧ a.free = [] := by
    unfold nextP at hx
    split at hx
    · cases hx
    · rename_i hn
      split at hx
      · rename_i hf
        exact ⟨hn, hf⟩
      · cases hx
  have HRO := Lib.hid fun w (h : Jn W w jb b F d g a fv) => room_none h N hno.1 hno.2
  clear h hL hlen hi hyes hm hx hN hno
  go_enter Tryz.func46, Tryz.ntmps46
  go_wp2_with fail
  refine HLA.out.mono ?_
  rintro e w1 ⟨s7, s8, rfl, ht⟩
  have HB := Lib.hid ht.b
  obtain ⟨a7, c7', hv7, -⟩ := ht.s.len
  obtain ⟨a8, c8', hv8⟩ := ht.a.ints.form
  rw [HNN.out] at hv7
  subst hv7
  subst hv8
  clear ht
  go_upto_region 6 with fail
  refine wp_region_lit ?_
  refine takeL (.pointer (some ⟨jb, 0, none⟩)) rfl (by go_simp) ?_
  try simp only [Act.put, List.setIfInBounds_toArray, List.set_cons_succ, List.set_cons_zero]
  refine takeL (.slice a7 N c7') rfl (by go_simp) ?_
  try simp only [Act.put, List.setIfInBounds_toArray, List.set_cons_succ, List.set_cons_zero]
  refine takeL (.int .i64 N) rfl (by go_simp) ?_
  try simp only [Act.put, List.setIfInBounds_toArray, List.set_cons_succ, List.set_cons_zero]
  refine wpList_op rfl fun K hK => ?_
  go_simp
  refine (HRO.out _ (HJ.out.below HB.out)).mono ?_
  rintro e w2 ⟨v, rfl, hf, hb⟩
  have HB2 := Lib.hid (stay HB.out hb)
  have HF2 := Lib.hid hf
  obtain ⟨T, dd, hv⟩ := hf.shape
  subst hv
  clear hf hb
  refine hK _ _ ?_
  clear hK K
  try simp only [Act.put, List.setIfInBounds_toArray, List.set_cons_succ, List.set_cons_zero]
  refine takeL (.tuple #[.agg #[.int .i64 0, .int .i64 0, .int .u32 0, .slice none 0 0], .iface T dd]) rfl (by go_simp) ?_
  try simp only [Act.put, List.setIfInBounds_toArray, List.set_cons_succ, List.set_cons_zero]
  refine takeL (.agg #[.int .i64 0, .int .i64 0, .int .u32 0, .slice none 0 0]) rfl (by go_simp) ?_
  try simp only [Act.put, List.setIfInBounds_toArray, List.set_cons_succ, List.set_cons_zero]
  refine takeL (.iface T dd) rfl (by go_simp) ?_
  try simp only [Act.put, List.setIfInBounds_toArray, List.set_cons_succ, List.set_cons_zero]
  refine alloc_g zero27 rfl ?_
  intro w3 hR hb hl
  try simp only [Act.put, List.setIfInBounds_toArray, List.set_cons_succ, List.set_cons_zero]
  have HB3 := Lib.hid (stay HB2.out (hb.mono (Nat.le_refl _)))
  have HF3 := Lib.hid (HF2.out.below hb)
  have HL3 := Lib.hid HB2.out.size
  refine store_all (cs := #[.int .i64 0, .int .i64 0, .int .u32 0, .slice none 0 0]) hR rfl info27 (at_one _ _ _ _ _ _) rfl rfl rfl ?_
  intro w4 hD hO hlD
  try simp only [Act.put, List.setIfInBounds_toArray, List.set_cons_succ, List.set_cons_zero]
  have HB4 := Lib.hid (HB3.out.trans (hO.below HB3.out.size fun k hk => by have := HL3.out; omega))
  have HF4 := Lib.hid (HF3.out.onlyZ hO hR)
  clear hR hb hl hD hO hlD
  refine takeL (.iface T dd) rfl (by go_simp) ?_
  try simp only [Act.put, List.setIfInBounds_toArray, List.set_cons_succ, List.set_cons_zero]
  refine wpList_nil ?_
  go_wp2_with fail
  refine (HWF.out _ _ _ HF4.out).mono ?_
  rintro e w5 ⟨v2, rfl, hf, hb⟩
  have HB5 := Lib.hid (stay HB4.out hb)
  have HF5 := Lib.hid hf
  obtain ⟨T2, dd2, hv⟩ := hf.shape
  subst hv
  clear hf hb
  go_wp2_with fail
  first | go_ret2 | go_ret
  exact ⟨_, _, rfl, PutOut.same HJ.out HB5.out rfl HF5.out⟩
end

end Go.Proofs.YtmlniannilnmhaaGreatDoor
