/- Something held. -/
import Derived.Test.YtaemjglblfencaaGreatDoorFc
namespace Go.Proofs.YtaemjglblfencaaGreatDoor
set_option linter.unusedSimpArgs false
set_option linter.unusedVariables false
open Go.RowKit Kl

theorem noneH {P : Program} {ops : Array Oper} {md : Region.Mode} {Q : Exit → Act → World → Prop} {S : World → Prop} {fuel : Nat} {listed : Array Bool} {a : Act} {w : World} (i : Nat) {o : Oper} (dst : Option Tmp) (hr : Region.ready md ops listed = [i]) (hi : ops[i]? = some o) (hd : o.dst = dst)
    (hw : Region.wanted o (yielded ops a.tmps) = false) (hS : S w) (h : wpAnyH P md ops Q S fuel (listed.setIfInBounds i true) (a.put dst undef) w) : wpAnyH P md ops Q S (fuel + 1) listed a w :=
  wpAnyH_all hr (by simp) fun j hj => by
    rw [List.mem_singleton.1 hj]
    subst hd
    exact wpOp_step hi fun K hK => by rw [if_neg (by rw [hw]; decide)]; exact hK _ _ ⟨hS, h⟩
/-- What a call that may turn frames leaves behind. -/
def Held (w w' : World) (L : Lay) (ps : List (Option Nat)) (s : Fs) : Prop := ∃ ps', FAt w' L ps' s ∧ Only (Foot L ps) w w' ∧ ∀ g, some g ∈ ps' → some g ∈ ps ∨ w.heap.size ≤ g
theorem Held.below {w w' : World} {L : Lay} {ps : List (Option Nat)} {s : Fs} (h : FAt w L ps s) (hb : Below w.heap.size w w') : Held w w' L ps s := ⟨ps, h.below hb, Only.of_below hb, fun g hg => .inl hg⟩
theorem Only.foot {w w' : World} {L : Lay} {ps : List (Option Nat)} (h : Only (foot L.cb L.cr) w w') : Only (Foot L ps) w w' := h.more fun k _ hk => foot_Foot k hk
theorem may_key {B : Nat} {s : Fs} (ho : s.Ok B) {k : Nat} {key : Int} (hm : s.c.mayPut k key = true) {j : Nat} {f : Fm} (hf : s.c.l[j]? = some f) (e : f.key = key) : j = k := by
  obtain ⟨k', f', e2, hf', h0⟩ := may_at hm
  unfold Ck.mayPut at hm
  rw [← e, find_is ho.ck hf (by omega)] at hm
  simp only [Bool.and_eq_true, decide_eq_true_eq] at hm
  omega
theorem FAt.put {B : Nat} {w w' : World} {L : Lay} {ps : List (Option Nat)} {s : Fs} (h : FAt w L ps s) (ho : s.Ok B) {k : Nat} {key : Int} {x : Hd} (hm : s.may k key = true) {g0 : Nat} (hc : Kl.At encC w' L.cb L.cr L.cap [] (s.c.put k key)) (hrow : Blk w' L.gr ((ps.set k (some g0)).map pv)) (hon : Only (fun j => j = L.cb ∨ j = L.cr ∨ j = L.gr) w w') (hg0 : w.heap.size ≤ g0) (hb : Blk w' g0 (encH key x)) : FAt w' L (ps.set k (some g0)) (s.put k key x) := by
  have hm2 : s.c.mayPut k key = true := by unfold Fs.may at hm; rw [Bool.and_eq_true] at hm; exact hm.2
  obtain ⟨k', f, e, hf, h0⟩ := may_at hm2
  obtain rfl : k = k' := by omega
  have hlt := (List.getElem?_eq_some_iff.1 hf).1
  obtain ⟨n1, n2, n3, n4, n5⟩ := h.n1
  have hs : s.put k key x = ⟨{ s.c with l := s.c.l.set k ⟨key, true, 0⟩ }, s.h.set k x⟩ := by unfold Fs.put; rw [if_pos hm, put_yes hm2, Int.toNat_natCast]
  rw [hs]
  rw [put_yes hm2] at hc
  have hlen := h.len
  have hhl := ho.len
  have new : ∀ g, some g ∈ ps.set k (some g0) → g = g0 ∨ some g ∈ ps := fun g hg => by
    rcases List.mem_or_eq_of_mem_set hg with h1 | h1
    · exact .inr h1
    · exact .inl (Option.some.inj h1)
  refine ⟨?_, hc, hrow, by simp [hlen], fun j f' x' hf' hx' h0' => ?_, fun j f' hf' h0' => ?_, fun a b g ha hb2 => ?_, fun g hg => ?_, h.n1⟩
  · have := h.blk.only hon (by omega)
    simpa using this
  · simp only [List.getElem?_set] at hf' hx' ⊢
    by_cases ej : k = j
    · subst ej
      simp only [if_pos hlt, if_true, Option.some.injEq] at hf'
      rw [if_pos rfl, if_pos (by omega)] at hx'
      cases hx'
      subst hf'
      exact ⟨g0, by rw [if_pos rfl, if_pos (by omega)], hb⟩
    · rw [if_neg ej] at hf' hx' ⊢
      obtain ⟨g, h1, h2⟩ := h.yes j f' x' hf' hx' h0'
      have := h.nb g (List.mem_of_getElem? h1)
      exact ⟨g, h1, h2.only hon (by omega)⟩
  · simp only [List.getElem?_set] at hf' ⊢
    by_cases ej : k = j
    · subst ej
      simp only [if_pos hlt, if_true, Option.some.injEq] at hf'
      subst hf'
      simp only at h0'
      omega
    · rw [if_neg ej] at hf' ⊢
      exact h.no j f' hf' h0'
  · have old : ∀ (j : Nat), k ≠ j → (ps.set k (some g0))[j]? = some (some g) → ps[j]? = some (some g) ∧ g < w.heap.size := fun j hj hjg => by
      rw [List.getElem?_set, if_neg hj] at hjg
      exact ⟨hjg, h.lt ho (.inr (.inr (.inr (.inr (List.mem_of_getElem? hjg)))))⟩
    have here : ∀ (j : Nat), k = j → (ps.set k (some g0))[j]? = some (some g) → g = g0 := fun j hj hjg => by
      subst hj
      rw [List.getElem?_set, if_pos rfl, if_pos (by omega)] at hjg
      exact (Option.some.inj (Option.some.inj hjg)).symm
    by_cases ea : k = a
    · by_cases eb : k = b
      · omega
      · have := here a ea ha
        have := (old b eb hb2).2
        omega
    · by_cases eb : k = b
      · have := here b eb hb2
        have := (old a ea ha).2
        omega
      · exact h.one a b g (old a ea ha).1 (old b eb hb2).1
  · rcases new g hg with rfl | h1
    · have := h.lt ho (k := L.b) (.inl rfl)
      have := h.lt ho (k := L.cb) (.inr (.inl rfl))
      have := h.lt ho (k := L.cr) (.inr (.inr (.inl rfl)))
      have := h.lt ho (k := L.gr) (.inr (.inr (.inr (.inl rfl))))
      omega
    · exact h.nb g h1


set_option maxRecDepth 100000 in
theorem hold_some {B : Nat} {w : World} {L : Lay} {ps : List (Option Nat)} {s : Fs} (h : FAt w L ps s) (ho : s.Ok B) (i key : Int) (x : Hd) (hx : x.Ok) (hk : someKey key = false) : Calls Tryz.prog 34 #[.pointer (some ⟨L.b, 0, none⟩), .int .i64 i, .agg (encH key x).toArray] w fun e w' => e = .returned (.bool false) ∧ Below w.heap.size w w' := by
  have HW := Lib.hid (what_any key)
  rw [hk] at HW
  clear hk
  generalize pageKey key = pk at *
  have HNF : Hid (¬ foot L.cb L.cr w.heap.size) := Lib.hid (by
    have := h.lt ho (k := L.cb) (.inr (.inl rfl))
    have := h.lt ho (k := L.cr) (.inr (.inr (.inl rfl)))
    rintro (e | e) <;> omega)
  have HO := Lib.hid ho
  have HH := Lib.hid h
  have HX := Lib.hid hx
  go_enter Tryz.func34, Tryz.ntmps34
  go_upto_region 0 with fail
  refine wp_region_lit ?_
  refine box_g (cs := (encH key x).toArray) rfl rfl ?_
  intro w1 hA hb hl
  try simp only [Act.put, List.setIfInBounds_toArray, List.set_cons_succ, List.set_cons_zero]
  refine takeL (.bool false) rfl (by go_simp) ?_
  try simp only [Act.put, List.setIfInBounds_toArray, List.set_cons_succ, List.set_cons_zero]
  refine wpList_nil ?_
  have HBX : Hid (Blk w1 w.heap.size (encH key x)) := Lib.hid (by simpa using hA)
  have HBW := Lib.hid hb
  have HA := Lib.hid (h.below hb)
  have HD := Lib.hid True.intro
  clear hA hb hl h ho hx
  go_upto_region 1 with fail
  refine startH (fun wq => Only (foot L.cb L.cr) w1 wq) (by kernel_rfl) ?_
  refine takeH 0 (some 7) (.pointer (some ⟨w.heap.size, 0, none⟩)) rfl rfl (by kernel_rfl) (by kernel_rfl) (by kernel_rfl) (fun _ _ _ h => h) rfl (fun wq hS => by go_simp) (Only.refl _ _).drew ?_
  try simp only [Act.put, List.setIfInBounds_toArray, List.set_cons_succ, List.set_cons_zero]
  refine takeH 1 (some 8) (.int .i64 key) rfl rfl (by kernel_rfl) (by kernel_rfl) (by kernel_rfl) (fun _ _ _ h => h) rfl (fun wq hS => by have hq := (HBX.out.only hS HNF.out).cell (i := 0) rfl; go_simp) (Only.refl _ _).drew ?_
  try simp only [Act.put, List.setIfInBounds_toArray, List.set_cons_succ, List.set_cons_zero]
  refine oneH 2 (by kernel_rfl) rfl rfl fun K hK => ?_
  go_simp
  refine (HW.out _).mono ?_
  rintro e v1 ⟨rfl, hb⟩
  have HB1 := Lib.hid (((Below.refl (World.heap w1).size w1).drew).trans (hb.mono ((Below.refl (World.heap w1).size w1).drew).size))
  have HS1 : Hid (Only (foot L.cb L.cr) w1 v1) := Lib.hid (Only.of_below HB1.out)
  clear hb
  refine hK _ _ HS1.out ?_
  clear hK K
  try simp only [Act.put, List.setIfInBounds_toArray, List.set_cons_succ, List.set_cons_zero]
  refine takeH 3 (some 10) (.bool false) rfl rfl (by kernel_rfl) (by kernel_rfl) (by kernel_rfl) (fun _ _ _ h => h) rfl (fun wq hS => by have hq := fieldts false pk wq; go_simp) HS1.out ?_
  try simp only [Act.put, List.setIfInBounds_toArray, List.set_cons_succ, List.set_cons_zero]
  refine takeH 4 (some 11) (.bool true) rfl rfl (by kernel_rfl) (by kernel_rfl) (by kernel_rfl) (fun _ _ _ h => h) rfl (fun wq hS => by go_simp) HS1.out ?_
  try simp only [Act.put, List.setIfInBounds_toArray, List.set_cons_succ, List.set_cons_zero]
  refine takeH 5 (some 12) (.bool true) rfl rfl (by kernel_rfl) (by kernel_rfl) (by kernel_rfl) (fun _ _ _ h => h) rfl (fun wq hS => by go_simp) HS1.out ?_
  try simp only [Act.put, List.setIfInBounds_toArray, List.set_cons_succ, List.set_cons_zero]
  refine passH 6 (some 13) rfl rfl (by kernel_rfl) (by kernel_rfl) (by kernel_rfl) (fun _ _ _ h => h) rfl HS1.out ?_
  try simp only [Act.put, List.setIfInBounds_toArray, List.set_cons_succ, List.set_cons_zero]
  refine passH 7 (some 14) rfl rfl (by kernel_rfl) (by kernel_rfl) (by kernel_rfl) (fun _ _ _ h => h) rfl HS1.out ?_
  try simp only [Act.put, List.setIfInBounds_toArray, List.set_cons_succ, List.set_cons_zero]
  refine noneH 8 (some 15) (by kernel_rfl) rfl rfl rfl HS1.out ?_
  try simp only [Act.put, List.setIfInBounds_toArray, List.set_cons_succ, List.set_cons_zero]
  refine noneH 9 (some 16) (by kernel_rfl) rfl rfl rfl HS1.out ?_
  try simp only [Act.put, List.setIfInBounds_toArray, List.set_cons_succ, List.set_cons_zero]
  refine takeH 10 (some 17) (.bool true) rfl rfl (by kernel_rfl) (by kernel_rfl) (by kernel_rfl) (fun _ _ _ h => h) rfl (fun wq hS => by go_simp) HS1.out ?_
  try simp only [Act.put, List.setIfInBounds_toArray, List.set_cons_succ, List.set_cons_zero]
  refine takeH 11 (some 18) (.bool true) rfl rfl (by kernel_rfl) (by kernel_rfl) (by kernel_rfl) (fun _ _ _ h => h) rfl (fun wq hS => by go_simp) HS1.out ?_
  try simp only [Act.put, List.setIfInBounds_toArray, List.set_cons_succ, List.set_cons_zero]
  refine passH 12 (some 19) rfl rfl (by kernel_rfl) (by kernel_rfl) (by kernel_rfl) (fun _ _ _ h => h) rfl HS1.out ?_
  try simp only [Act.put, List.setIfInBounds_toArray, List.set_cons_succ, List.set_cons_zero]
  refine passH 14 (some 21) rfl rfl (by kernel_rfl) (by kernel_rfl) (by kernel_rfl) (fun _ _ _ h => h) rfl HS1.out ?_
  try simp only [Act.put, List.setIfInBounds_toArray, List.set_cons_succ, List.set_cons_zero]
  refine passH 15 (some 22) rfl rfl (by kernel_rfl) (by kernel_rfl) (by kernel_rfl) (fun _ _ _ h => h) rfl HS1.out ?_
  try simp only [Act.put, List.setIfInBounds_toArray, List.set_cons_succ, List.set_cons_zero]
  refine passH 16 (some 23) rfl rfl (by kernel_rfl) (by kernel_rfl) (by kernel_rfl) (fun _ _ _ h => h) rfl HS1.out ?_
  try simp only [Act.put, List.setIfInBounds_toArray, List.set_cons_succ, List.set_cons_zero]
  refine noneH 13 (some 20) (by kernel_rfl) rfl rfl rfl HS1.out ?_
  try simp only [Act.put, List.setIfInBounds_toArray, List.set_cons_succ, List.set_cons_zero]
  refine noneH 17 (some 24) (by kernel_rfl) rfl rfl rfl HS1.out ?_
  try simp only [Act.put, List.setIfInBounds_toArray, List.set_cons_succ, List.set_cons_zero]
  refine passH 18 (some 25) rfl rfl (by kernel_rfl) (by kernel_rfl) (by kernel_rfl) (fun _ _ _ h => h) rfl HS1.out ?_
  try simp only [Act.put, List.setIfInBounds_toArray, List.set_cons_succ, List.set_cons_zero]
  refine takeH 19 (some 26) (.bool true) rfl rfl (by kernel_rfl) (by kernel_rfl) (by kernel_rfl) (fun _ _ _ h => h) rfl (fun wq hS => by go_simp) HS1.out ?_
  try simp only [Act.put, List.setIfInBounds_toArray, List.set_cons_succ, List.set_cons_zero]
  refine wpAnyH_done (by kernel_rfl) ?_ _
  go_wp2_with fail
  go_ret
  exact ⟨rfl, HBW.out.trans ((HB1.out).mono HBW.out.size)⟩


set_option maxRecDepth 100000 in
theorem hold_dirty {B : Nat} {w : World} {L : Lay} {ps : List (Option Nat)} {s : Fs} (h : FAt w L ps s) (ho : s.Ok B) (i key : Int) (x : Hd) (hx : x.Ok) (hk : someKey key = true) (hd : s.dirty i = true) : Calls Tryz.prog 34 #[.pointer (some ⟨L.b, 0, none⟩), .int .i64 i, .agg (encH key x).toArray] w fun e w' => e = .returned (.bool false) ∧ Below w.heap.size w w' := by
  have HW := Lib.hid (what_any key)
  rw [hk] at HW
  clear hk
  generalize pageKey key = pk at *
  have HNF : Hid (¬ foot L.cb L.cr w.heap.size) := Lib.hid (by
    have := h.lt ho (k := L.cb) (.inr (.inl rfl))
    have := h.lt ho (k := L.cr) (.inr (.inr (.inl rfl)))
    rintro (e | e) <;> omega)
  have HO := Lib.hid ho
  have HH := Lib.hid h
  have HX := Lib.hid hx
  go_enter Tryz.func34, Tryz.ntmps34
  go_upto_region 0 with fail
  refine wp_region_lit ?_
  refine box_g (cs := (encH key x).toArray) rfl rfl ?_
  intro w1 hA hb hl
  try simp only [Act.put, List.setIfInBounds_toArray, List.set_cons_succ, List.set_cons_zero]
  refine takeL (.bool false) rfl (by go_simp) ?_
  try simp only [Act.put, List.setIfInBounds_toArray, List.set_cons_succ, List.set_cons_zero]
  refine wpList_nil ?_
  have HBX : Hid (Blk w1 w.heap.size (encH key x)) := Lib.hid (by simpa using hA)
  have HBW := Lib.hid hb
  have HA := Lib.hid (h.below hb)
  have HD := Lib.hid fun (w' : World) (hb : Below w1.heap.size w1 w') => dirtyI_any (HA.out.below hb) HO.out i
  rw [hd] at HD
  clear hd
  clear hA hb hl h ho hx
  go_upto_region 1 with fail
  refine startH (fun wq => Only (foot L.cb L.cr) w1 wq) (by kernel_rfl) ?_
  refine takeH 0 (some 7) (.pointer (some ⟨w.heap.size, 0, none⟩)) rfl rfl (by kernel_rfl) (by kernel_rfl) (by kernel_rfl) (fun _ _ _ h => h) rfl (fun wq hS => by go_simp) (Only.refl _ _).drew ?_
  try simp only [Act.put, List.setIfInBounds_toArray, List.set_cons_succ, List.set_cons_zero]
  refine takeH 1 (some 8) (.int .i64 key) rfl rfl (by kernel_rfl) (by kernel_rfl) (by kernel_rfl) (fun _ _ _ h => h) rfl (fun wq hS => by have hq := (HBX.out.only hS HNF.out).cell (i := 0) rfl; go_simp) (Only.refl _ _).drew ?_
  try simp only [Act.put, List.setIfInBounds_toArray, List.set_cons_succ, List.set_cons_zero]
  refine oneH 2 (by kernel_rfl) rfl rfl fun K hK => ?_
  go_simp
  refine (HW.out _).mono ?_
  rintro e v1 ⟨rfl, hb⟩
  have HB1 := Lib.hid (((Below.refl (World.heap w1).size w1).drew).trans (hb.mono ((Below.refl (World.heap w1).size w1).drew).size))
  have HS1 : Hid (Only (foot L.cb L.cr) w1 v1) := Lib.hid (Only.of_below HB1.out)
  clear hb
  refine hK _ _ HS1.out ?_
  clear hK K
  try simp only [Act.put, List.setIfInBounds_toArray, List.set_cons_succ, List.set_cons_zero]
  refine takeH 3 (some 10) (.bool true) rfl rfl (by kernel_rfl) (by kernel_rfl) (by kernel_rfl) (fun _ _ _ h => h) rfl (fun wq hS => by have hq := fieldts true pk wq; go_simp) HS1.out ?_
  try simp only [Act.put, List.setIfInBounds_toArray, List.set_cons_succ, List.set_cons_zero]
  refine takeH 4 (some 11) (.bool false) rfl rfl (by kernel_rfl) (by kernel_rfl) (by kernel_rfl) (fun _ _ _ h => h) rfl (fun wq hS => by go_simp) HS1.out ?_
  try simp only [Act.put, List.setIfInBounds_toArray, List.set_cons_succ, List.set_cons_zero]
  refine takeH 5 (some 12) (.bool false) rfl rfl (by kernel_rfl) (by kernel_rfl) (by kernel_rfl) (fun _ _ _ h => h) rfl (fun wq hS => by go_simp) HS1.out ?_
  try simp only [Act.put, List.setIfInBounds_toArray, List.set_cons_succ, List.set_cons_zero]
  refine takeH 6 (some 13) (.pointer (some ⟨L.b, 0, none⟩)) rfl rfl (by kernel_rfl) (by kernel_rfl) (by kernel_rfl) (fun _ _ _ h => h) rfl (fun wq hS => by go_simp) HS1.out ?_
  try simp only [Act.put, List.setIfInBounds_toArray, List.set_cons_succ, List.set_cons_zero]
  refine takeH 7 (some 14) (.int .i64 i) rfl rfl (by kernel_rfl) (by kernel_rfl) (by kernel_rfl) (fun _ _ _ h => h) rfl (fun wq hS => by go_simp) HS1.out ?_
  try simp only [Act.put, List.setIfInBounds_toArray, List.set_cons_succ, List.set_cons_zero]
  refine oneH 8 (by kernel_rfl) rfl rfl fun K hK => ?_
  go_simp
  refine (in_any (HA.out.below (HB1.out)) HO.out i).mono ?_
  rintro e v2 ⟨rfl, hb⟩
  have HB2 := Lib.hid ((HB1.out).trans (hb.mono (HB1.out).size))
  have HS2 : Hid (Only (foot L.cb L.cr) w1 v2) := Lib.hid (Only.of_below HB2.out)
  clear hb
  refine hK _ _ HS2.out ?_
  clear hK K
  try simp only [Act.put, List.setIfInBounds_toArray, List.set_cons_succ, List.set_cons_zero]
  refine oneH 9 (by kernel_rfl) rfl rfl fun K hK => ?_
  go_simp
  refine (HD.out _ (HB2.out)).mono ?_
  rintro e v3 ⟨rfl, hb⟩
  have HB3 := Lib.hid ((HB2.out).trans (hb.mono (HB2.out).size))
  have HS3 : Hid (Only (foot L.cb L.cr) w1 v3) := Lib.hid (Only.of_below HB3.out)
  clear hb
  refine hK _ _ HS3.out ?_
  clear hK K
  try simp only [Act.put, List.setIfInBounds_toArray, List.set_cons_succ, List.set_cons_zero]
  refine takeH 10 (some 17) (.bool true) rfl rfl (by kernel_rfl) (by kernel_rfl) (by kernel_rfl) (fun _ _ _ h => h) rfl (fun wq hS => by go_simp) HS3.out ?_
  try simp only [Act.put, List.setIfInBounds_toArray, List.set_cons_succ, List.set_cons_zero]
  refine takeH 11 (some 18) (.bool true) rfl rfl (by kernel_rfl) (by kernel_rfl) (by kernel_rfl) (fun _ _ _ h => h) rfl (fun wq hS => by go_simp) HS3.out ?_
  try simp only [Act.put, List.setIfInBounds_toArray, List.set_cons_succ, List.set_cons_zero]
  refine passH 12 (some 19) rfl rfl (by kernel_rfl) (by kernel_rfl) (by kernel_rfl) (fun _ _ _ h => h) rfl HS3.out ?_
  try simp only [Act.put, List.setIfInBounds_toArray, List.set_cons_succ, List.set_cons_zero]
  refine passH 14 (some 21) rfl rfl (by kernel_rfl) (by kernel_rfl) (by kernel_rfl) (fun _ _ _ h => h) rfl HS3.out ?_
  try simp only [Act.put, List.setIfInBounds_toArray, List.set_cons_succ, List.set_cons_zero]
  refine passH 15 (some 22) rfl rfl (by kernel_rfl) (by kernel_rfl) (by kernel_rfl) (fun _ _ _ h => h) rfl HS3.out ?_
  try simp only [Act.put, List.setIfInBounds_toArray, List.set_cons_succ, List.set_cons_zero]
  refine passH 16 (some 23) rfl rfl (by kernel_rfl) (by kernel_rfl) (by kernel_rfl) (fun _ _ _ h => h) rfl HS3.out ?_
  try simp only [Act.put, List.setIfInBounds_toArray, List.set_cons_succ, List.set_cons_zero]
  refine noneH 13 (some 20) (by kernel_rfl) rfl rfl rfl HS3.out ?_
  try simp only [Act.put, List.setIfInBounds_toArray, List.set_cons_succ, List.set_cons_zero]
  refine noneH 17 (some 24) (by kernel_rfl) rfl rfl rfl HS3.out ?_
  try simp only [Act.put, List.setIfInBounds_toArray, List.set_cons_succ, List.set_cons_zero]
  refine passH 18 (some 25) rfl rfl (by kernel_rfl) (by kernel_rfl) (by kernel_rfl) (fun _ _ _ h => h) rfl HS3.out ?_
  try simp only [Act.put, List.setIfInBounds_toArray, List.set_cons_succ, List.set_cons_zero]
  refine takeH 19 (some 26) (.bool true) rfl rfl (by kernel_rfl) (by kernel_rfl) (by kernel_rfl) (fun _ _ _ h => h) rfl (fun wq hS => by go_simp) HS3.out ?_
  try simp only [Act.put, List.setIfInBounds_toArray, List.set_cons_succ, List.set_cons_zero]
  refine wpAnyH_done (by kernel_rfl) ?_ _
  go_wp2_with fail
  go_ret
  exact ⟨rfl, HBW.out.trans ((HB3.out).mono HBW.out.size)⟩


set_option maxRecDepth 100000 in
theorem hold_put {B : Nat} {w : World} {L : Lay} {ps : List (Option Nat)} {s : Fs} (h : FAt w L ps s) (ho : s.Ok B) (i key : Int) (x : Hd) (hx : x.Ok) (hk : someKey key = true) (hd : s.dirty i = false) : Calls Tryz.prog 34 #[.pointer (some ⟨L.b, 0, none⟩), .int .i64 i, .agg (encH key x).toArray] w fun e w' => e = .returned (.bool (s.c.mayPut i key)) ∧ Held w w' L ps (s.put i key x) := by
  have HW := Lib.hid (what_any key)
  rw [hk] at HW
  clear hk
  generalize pageKey key = pk at *
  have HNF : Hid (¬ foot L.cb L.cr w.heap.size) := Lib.hid (by
    have := h.lt ho (k := L.cb) (.inr (.inl rfl))
    have := h.lt ho (k := L.cr) (.inr (.inr (.inl rfl)))
    rintro (e | e) <;> omega)
  have HO := Lib.hid ho
  have HH := Lib.hid h
  have HX := Lib.hid hx
  go_enter Tryz.func34, Tryz.ntmps34
  go_upto_region 0 with fail
  refine wp_region_lit ?_
  refine box_g (cs := (encH key x).toArray) rfl rfl ?_
  intro w1 hA hb hl
  try simp only [Act.put, List.setIfInBounds_toArray, List.set_cons_succ, List.set_cons_zero]
  refine takeL (.bool false) rfl (by go_simp) ?_
  try simp only [Act.put, List.setIfInBounds_toArray, List.set_cons_succ, List.set_cons_zero]
  refine wpList_nil ?_
  have HBX : Hid (Blk w1 w.heap.size (encH key x)) := Lib.hid (by simpa using hA)
  have HBW := Lib.hid hb
  have HA := Lib.hid (h.below hb)
  have HD := Lib.hid fun (w' : World) (hb : Below w1.heap.size w1 w') => dirtyI_any (HA.out.below hb) HO.out i
  rw [hd] at HD
  have HDY := Lib.hid hd
  clear hd
  clear hA hb hl h ho hx
  go_upto_region 1 with fail
  refine startH (fun wq => Only (foot L.cb L.cr) w1 wq) (by kernel_rfl) ?_
  refine takeH 0 (some 7) (.pointer (some ⟨w.heap.size, 0, none⟩)) rfl rfl (by kernel_rfl) (by kernel_rfl) (by kernel_rfl) (fun _ _ _ h => h) rfl (fun wq hS => by go_simp) (Only.refl _ _).drew ?_
  try simp only [Act.put, List.setIfInBounds_toArray, List.set_cons_succ, List.set_cons_zero]
  refine takeH 1 (some 8) (.int .i64 key) rfl rfl (by kernel_rfl) (by kernel_rfl) (by kernel_rfl) (fun _ _ _ h => h) rfl (fun wq hS => by have hq := (HBX.out.only hS HNF.out).cell (i := 0) rfl; go_simp) (Only.refl _ _).drew ?_
  try simp only [Act.put, List.setIfInBounds_toArray, List.set_cons_succ, List.set_cons_zero]
  refine oneH 2 (by kernel_rfl) rfl rfl fun K hK => ?_
  go_simp
  refine (HW.out _).mono ?_
  rintro e v1 ⟨rfl, hb⟩
  have HB1 := Lib.hid (((Below.refl (World.heap w1).size w1).drew).trans (hb.mono ((Below.refl (World.heap w1).size w1).drew).size))
  have HS1 : Hid (Only (foot L.cb L.cr) w1 v1) := Lib.hid (Only.of_below HB1.out)
  clear hb
  refine hK _ _ HS1.out ?_
  clear hK K
  try simp only [Act.put, List.setIfInBounds_toArray, List.set_cons_succ, List.set_cons_zero]
  refine takeH 3 (some 10) (.bool true) rfl rfl (by kernel_rfl) (by kernel_rfl) (by kernel_rfl) (fun _ _ _ h => h) rfl (fun wq hS => by have hq := fieldts true pk wq; go_simp) HS1.out ?_
  try simp only [Act.put, List.setIfInBounds_toArray, List.set_cons_succ, List.set_cons_zero]
  refine takeH 4 (some 11) (.bool false) rfl rfl (by kernel_rfl) (by kernel_rfl) (by kernel_rfl) (fun _ _ _ h => h) rfl (fun wq hS => by go_simp) HS1.out ?_
  try simp only [Act.put, List.setIfInBounds_toArray, List.set_cons_succ, List.set_cons_zero]
  refine takeH 5 (some 12) (.bool false) rfl rfl (by kernel_rfl) (by kernel_rfl) (by kernel_rfl) (fun _ _ _ h => h) rfl (fun wq hS => by go_simp) HS1.out ?_
  try simp only [Act.put, List.setIfInBounds_toArray, List.set_cons_succ, List.set_cons_zero]
  refine takeH 6 (some 13) (.pointer (some ⟨L.b, 0, none⟩)) rfl rfl (by kernel_rfl) (by kernel_rfl) (by kernel_rfl) (fun _ _ _ h => h) rfl (fun wq hS => by go_simp) HS1.out ?_
  try simp only [Act.put, List.setIfInBounds_toArray, List.set_cons_succ, List.set_cons_zero]
  refine takeH 7 (some 14) (.int .i64 i) rfl rfl (by kernel_rfl) (by kernel_rfl) (by kernel_rfl) (fun _ _ _ h => h) rfl (fun wq hS => by go_simp) HS1.out ?_
  try simp only [Act.put, List.setIfInBounds_toArray, List.set_cons_succ, List.set_cons_zero]
  refine oneH 8 (by kernel_rfl) rfl rfl fun K hK => ?_
  go_simp
  refine (in_any (HA.out.below (HB1.out)) HO.out i).mono ?_
  rintro e v2 ⟨rfl, hb⟩
  have HB2 := Lib.hid ((HB1.out).trans (hb.mono (HB1.out).size))
  have HS2 : Hid (Only (foot L.cb L.cr) w1 v2) := Lib.hid (Only.of_below HB2.out)
  clear hb
  refine hK _ _ HS2.out ?_
  clear hK K
  try simp only [Act.put, List.setIfInBounds_toArray, List.set_cons_succ, List.set_cons_zero]
  refine oneH 9 (by kernel_rfl) rfl rfl fun K hK => ?_
  go_simp
  refine (HD.out _ (HB2.out)).mono ?_
  rintro e v3 ⟨rfl, hb⟩
  have HB3 := Lib.hid ((HB2.out).trans (hb.mono (HB2.out).size))
  have HS3 : Hid (Only (foot L.cb L.cr) w1 v3) := Lib.hid (Only.of_below HB3.out)
  clear hb
  refine hK _ _ HS3.out ?_
  clear hK K
  try simp only [Act.put, List.setIfInBounds_toArray, List.set_cons_succ, List.set_cons_zero]
  refine takeH 10 (some 17) (.bool false) rfl rfl (by kernel_rfl) (by kernel_rfl) (by kernel_rfl) (fun _ _ _ h => h) rfl (fun wq hS => by go_simp) HS3.out ?_
  try simp only [Act.put, List.setIfInBounds_toArray, List.set_cons_succ, List.set_cons_zero]
  refine takeH 11 (some 18) (.bool false) rfl rfl (by kernel_rfl) (by kernel_rfl) (by kernel_rfl) (fun _ _ _ h => h) rfl (fun wq hS => by go_simp) HS3.out ?_
  try simp only [Act.put, List.setIfInBounds_toArray, List.set_cons_succ, List.set_cons_zero]
  refine takeH 12 (some 19) (.pointer (some ⟨L.b, 0, none⟩)) rfl rfl (by kernel_rfl) (by kernel_rfl) (by kernel_rfl) (fun _ _ _ h => h) rfl (fun wq hS => by go_simp) HS3.out ?_
  try simp only [Act.put, List.setIfInBounds_toArray, List.set_cons_succ, List.set_cons_zero]
  refine takeH 14 (some 21) (.int .i64 i) rfl rfl (by kernel_rfl) (by kernel_rfl) (by kernel_rfl) (fun _ _ _ h => h) rfl (fun wq hS => by go_simp) HS3.out ?_
  try simp only [Act.put, List.setIfInBounds_toArray, List.set_cons_succ, List.set_cons_zero]
  refine takeH 15 (some 22) (.pointer (some ⟨w.heap.size, 0, none⟩)) rfl rfl (by kernel_rfl) (by kernel_rfl) (by kernel_rfl) (fun _ _ _ h => h) rfl (fun wq hS => by go_simp) HS3.out ?_
  try simp only [Act.put, List.setIfInBounds_toArray, List.set_cons_succ, List.set_cons_zero]
  refine takeH 16 (some 23) (.int .i64 key) rfl rfl (by kernel_rfl) (by kernel_rfl) (by kernel_rfl) (fun _ _ _ h => h) rfl (fun wq hS => by have hq := (HBX.out.only hS HNF.out).cell (i := 0) rfl; go_simp) HS3.out ?_
  try simp only [Act.put, List.setIfInBounds_toArray, List.set_cons_succ, List.set_cons_zero]
  refine oneH 13 (by kernel_rfl) rfl rfl fun K hK => ?_
  go_simp
  refine (clockF_any (HA.out.below (HB3.out))).mono ?_
  rintro e v4 ⟨rfl, rfl⟩
  refine hK _ _ HS3.out ?_
  clear hK K
  try simp only [Act.put, List.setIfInBounds_toArray, List.set_cons_succ, List.set_cons_zero]
  refine oneH 17 (by kernel_rfl) rfl rfl fun K hK => ?_
  go_simp
  refine (put_any _ L.cb L.cr L.cap [] s.c (HA.out.below (HB3.out)).clk HO.out.ck i key).mono ?_
  rintro e v5 ⟨rfl, hc, hs⟩
  have HC := Lib.hid hc
  have HS5 := Lib.hid ((HS3.out).trans hs)
  clear hc hs
  refine hK _ _ HS5.out ?_
  clear hK K
  try simp only [Act.put, List.setIfInBounds_toArray, List.set_cons_succ, List.set_cons_zero]
  refine takeH 18 (some 25) (.bool (!s.c.mayPut i key)) rfl rfl (by kernel_rfl) (by kernel_rfl) (by kernel_rfl) (fun _ _ _ h => h) rfl (fun wq hS => by go_simp) HS5.out ?_
  try simp only [Act.put, List.setIfInBounds_toArray, List.set_cons_succ, List.set_cons_zero]
  refine takeH 19 (some 26) (.bool (!s.c.mayPut i key)) rfl rfl (by kernel_rfl) (by kernel_rfl) (by kernel_rfl) (fun _ _ _ h => h) rfl (fun wq hS => by go_simp) HS5.out ?_
  try simp only [Act.put, List.setIfInBounds_toArray, List.set_cons_succ, List.set_cons_zero]
  refine wpAnyH_done (by kernel_rfl) ?_ _
  cases hmp : s.c.mayPut i key with
  | false =>
    have HM := Lib.hid hmp
    clear hmp
    go_wp2_with fail
    go_ret
    refine ⟨by rw [HM.out]; rfl, ps, ?_, (Only.of_below HBW.out).trans (Only.foot HS5.out), fun g hg => .inl hg⟩
    have hm : s.may i key = false := by unfold Fs.may; rw [HM.out, Bool.and_false]
    unfold Fs.put
    rw [hm, if_neg (by simp)]
    have hc := HC.out
    rw [put_no HM.out] at hc
    exact HA.out.clock hc HS5.out rfl fun k f hf => ⟨f, hf, rfl⟩
  | true =>
    obtain ⟨k, f, rfl, hf, h0⟩ := may_at hmp
    have HMP := Lib.hid hmp
    have hmay : s.may (k : Int) key = true := by unfold Fs.may; rw [HDY.out, hmp]; rfl
    have HM := Lib.hid hmay
    have HF := Lib.hid hf
    have hn1 := HO.out.ck.n1
    have hk1 : (k : Int) < (s.c.l.length : Int) := by have := (List.getElem?_eq_some_iff.1 hf).1; omega
    obtain ⟨n1, n2, n3, n4, n5⟩ := HA.out.n1
    have hblk := HA.out.blk.only HS5.out (by rintro (e | e) <;> omega)
    have hrow := HA.out.row.only HS5.out (by rintro (e | e) <;> omega)
    have HLO := Lib.hid (lose_any (w := v5) (L := L) (ps := ps) s.c.l.length k key ⟨_, hblk⟩ hrow HH.out.len hn1 n3 (fun j g hj => by
      obtain ⟨j', f', x', h1, h2, h3, h4, h5, h6⟩ := HA.out.own HO.out (List.mem_of_getElem? hj)
      have h7 := HA.out.nb g (List.mem_of_getElem? hj)
      have h8 := HA.out.one j j' g hj h1
      refine ⟨h7.2.2.2, f'.key, (h6.only HS5.out (by rintro (e | e) <;> omega)).cell (i := 0) rfl, fun e => ?_⟩
      rw [h8]
      exact may_key HO.out HMP.out h2 e))
    have bx := (HBX.out.only HS5.out HNF.out)
    have HB2 := Lib.hid bx
    have x0 := bx.cell (i := 0) rfl
    clear hblk hrow bx hmay hf h0 hmp
    generalize s.c.l.length = n at *
    go_wp2_with fail
    refine HLO.out.mono ?_
    rintro e w3 ⟨rfl, hlost⟩
    obtain ⟨ps', hps, hrow, hon⟩ := hlost
    have HON := Lib.hid hon
    have b1 := ((HA.out.blk.only HS5.out (by rintro (e | e) <;> omega)).only hon n3).cell (i := 1) rfl
    have frz := hrow.frozen
    have hpl : ps'.length = ps.length := by rcases hps with e | e <;> rw [e] <;> simp
    have hkl : k < ps.length := by rw [HH.out.len]; exact (List.getElem?_eq_some_iff.1 HF.out).1
    obtain ⟨q, hq⟩ : ∃ q, ps'[k]? = some q := ⟨_, List.getElem?_eq_getElem (by omega)⟩
    have xk := pv_cell hrow hq
    have HR := Lib.hid hrow
    have HPS := Lib.hid hps
    have hkn := HH.out.len
    clear hon hrow hps hq
    go_wp2_with fail
    go_ret
    have hset : ps'.set k (some w.heap.size) = ps.set k (some w.heap.size) := by rcases HPS.out with e | e <;> rw [e] <;> simp
    have hfin : Only (fun j => j = L.cb ∨ j = L.cr ∨ j = L.gr) w (w3.setCell ⟨L.gr, k, none⟩ (.pointer (some ⟨w.heap.size, 0, none⟩))) :=
      (((Only.of_below HBW.out).trans (HS5.out.more fun j _ hj => hj.elim (fun e => .inl e) fun e => .inr (.inl e))).trans (HON.out.more fun j _ hj => .inr (.inr hj))).setCell (.inl (.inr (.inr rfl))) _
    have hlt := fun (j : Nat) (hj : Foot L ps j) => HH.out.lt HO.out hj
    have hgr := hlt L.gr (.inr (.inr (.inr (.inl rfl))))
    have hne := HC.out.ne
    refine ⟨by rw [HMP.out]; rfl, ps.set k (some w.heap.size), FAt.put HH.out HO.out HM.out ?_ ?_ hfin (Nat.le_refl _) ?_, hfin.more fun j _ hj => ?_, fun g hg => ?_⟩
    · exact (HC.out.only HON.out n4 n5).setOther n4 n5
    · rw [← hset, ← set_pv]
      exact HR.out.set k _
    · exact (HB2.out.only HON.out (by omega)).setOther (a := ⟨L.gr, k, none⟩) (by simp only; omega) _
    · rcases hj with e | e | e
      · exact .inr (.inl e)
      · exact .inr (.inr (.inl e))
      · exact .inr (.inr (.inr (.inl e)))
    · rcases List.mem_or_eq_of_mem_set hg with h1 | h1
      · exact .inl h1
      · exact .inr (by rw [Option.some.inj h1]; exact Nat.le_refl _)


theorem hold_any {B : Nat} {w : World} {L : Lay} {ps : List (Option Nat)} {s : Fs} (h : FAt w L ps s) (ho : s.Ok B) (i key : Int) (x : Hd) (hx : x.Ok) : Calls Tryz.prog 34 #[.pointer (some ⟨L.b, 0, none⟩), .int .i64 i, .agg (encH key x).toArray] w fun e w' => e = .returned (.bool (someKey key && s.may i key)) ∧ Held w w' L ps (if someKey key then s.put i key x else s) := by
  cases hk : someKey key with
  | false =>
    refine (hold_some h ho i key x hx hk).mono ?_
    rintro e w' ⟨rfl, hb⟩
    exact ⟨rfl, Held.below h hb⟩
  | true =>
    simp only [Bool.true_and, if_true]
    cases hd : s.dirty i with
    | true =>
      refine (hold_dirty h ho i key x hx hk hd).mono ?_
      rintro e w' ⟨rfl, hb⟩
      have hm : s.may i key = false := by unfold Fs.may; rw [hd]; rfl
      unfold Fs.put
      rw [hm, if_neg (by simp)]
      exact ⟨rfl, Held.below h hb⟩
    | false =>
      refine (hold_put h ho i key x hx hk hd).mono ?_
      rintro e w' ⟨rfl, hh⟩
      exact ⟨by unfold Fs.may; rw [hd]; rfl, hh⟩

end Go.Proofs.YtaemjglblfencaaGreatDoor
