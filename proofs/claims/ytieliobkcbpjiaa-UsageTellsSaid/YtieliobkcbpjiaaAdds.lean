/- UsageAdds's walk. -/
import Derived.Test.YtieliobkcbpjiaaWakes
namespace Go.Proofs.Ytieliobkcbpjiaa
set_option linter.unusedSimpArgs false
set_option linter.unusedVariables false
open Go.RowKit

theorem IntsAt.drew {w : World} {sv : Value} {l : List Int} (h : IntsAt w sv l) : IntsAt w.drew sv l := h
theorem IntsAt.cell2 {w : World} {a : Option Addr} {n cap : Nat} {l : List Int} (h : IntsAt w (.slice a n cap) l) : ∀ i x, l[i]? = some x → ∃ b o, a = some ⟨b, o, none⟩ ∧ w.cell? ⟨b, o + i, none⟩ = some (.int .i64 x) := by
  obtain ⟨a', cap', e, hc⟩ := h
  cases e
  exact hc
theorem IntsAt.form2 {w : World} {sv : Value} {l : List Int} (h : IntsAt w sv l) : ∃ a cap, sv = .slice a l.length cap := let ⟨a, cap, e, _⟩ := h; ⟨a, cap, e⟩
set_option maxRecDepth 100000 in
theorem adds_big1 (g : Gm) (a b : List Int) (hn : 200 < a.length) (av bv : Value) (w : World) (hs : IntsAt w av a) (ks : IntsAt w bv b) : Calls Try.prog 5 #[g.v, av, bv] w fun e w' => e = .returned (.bool true) ∧ Below w.heap.size w w' := by
  have HK := Lib.hid wakes_any
  obtain ⟨sa, sc, rfl⟩ := hs.form2
  obtain ⟨ta, tc, rfl⟩ := ks.form2
  have d0 : decide (200 < (a.length : Int)) = true := decide_eq_true (by omega)
  generalize a.length = n at *
  generalize b.length = m at *
  clear hs ks
  go_enter Try.func5, Try.ntmps5
  go_wp2_with fail
  refine (HK.out _).mono ?_
  rintro e w1 ⟨rfl, hb⟩
  have HB := Lib.hid (box_call hb)
  clear hb
  go_wp2_with fail
  go_ret
  exact ⟨rfl, HB.out.1⟩
set_option maxRecDepth 100000 in
theorem adds_big2 (g : Gm) (a b : List Int) (hn : a.length ≤ 200) (hm : 200 < b.length) (av bv : Value) (w : World) (hs : IntsAt w av a) (ks : IntsAt w bv b) : Calls Try.prog 5 #[g.v, av, bv] w fun e w' => e = .returned (.bool true) ∧ Below w.heap.size w w' := by
  have HK := Lib.hid wakes_any
  obtain ⟨sa, sc, rfl⟩ := hs.form2
  obtain ⟨ta, tc, rfl⟩ := ks.form2
  have d0 : decide (200 < (a.length : Int)) = false := decide_eq_false (by omega)
  have d1 : decide (200 < (b.length : Int)) = true := decide_eq_true (by omega)
  generalize a.length = n at *
  generalize b.length = m at *
  clear hs ks
  go_enter Try.func5, Try.ntmps5
  go_wp2_with fail
  refine (HK.out _).mono ?_
  rintro e w1 ⟨rfl, hb⟩
  have HB := Lib.hid (box_call hb)
  clear hb
  go_wp2_with fail
  go_ret
  exact ⟨rfl, HB.out.1⟩
set_option maxRecDepth 100000 in
set_option maxHeartbeats 1000000 in
theorem adds_yes (g : Gm) (a b : List Int) (ha : a.length ≤ 200) (hb : b.length ≤ 200) (av bv : Value) (w : World) (hs : IntsAt w av a) (ks : IntsAt w bv b) : Calls Try.prog 5 #[g.v, av, bv] w fun e w' => e = .returned (.bool true) ∧ Below w.heap.size w w' := by
  have HK := Lib.hid wakes_any
  have CA := Lib.hid fun sv W hs => count_any g a (by omega) sv W hs
  have CB := Lib.hid fun sv W hs => count_any g b (by omega) sv W hs
  have CC := Lib.hid fun sv W hs => count_any g (b ++ a) (by rw [List.length_append]; omega) sv W hs
  obtain ⟨t1, t2⟩ := tot_cts g a b (by omega) (by omega)
  have la := cts_length g a (b ++ a)
  have lb := cts_length g b (b ++ a)
  have lz := cts_le g (b ++ a)
  have HCa := Lib.hid fun s h => cts_at (g := g) (l := a) (s := s) h
  have HCb := Lib.hid fun s h => cts_at (g := g) (l := b) (s := s) h
  have HCz := Lib.hid fun s h => cts_at (g := g) (l := b ++ a) (s := s) h
  obtain ⟨z, hz⟩ : ∃ z, (cts g (b ++ a)).length = z := ⟨_, rfl⟩
  rw [hz] at la lb lz HCz
  rw [la] at HCa
  rw [lb] at HCb
  have hta := (tot_bound (cts g a)).1
  have htb := (tot_bound (cts g b)).1
  have HSa := Lib.hid fun sv W hs => sum_any (cts g a) (by omega) sv W hs
  have HSb := Lib.hid fun sv W hs => sum_any (cts g b) (by omega) sv W hs
  have HSz := Lib.hid fun sv W hs => sum_any (cts g (b ++ a)) (by omega) sv W hs
  have t3 := (tot_cts g b a (by omega) (by omega)).2
  obtain ⟨tx, htx⟩ : ∃ t, tot (cts g a) = t := ⟨_, rfl⟩
  obtain ⟨ty, hty⟩ : ∃ t, tot (cts g b) = t := ⟨_, rfl⟩
  obtain ⟨tz, htz⟩ : ∃ t, tot (cts g (b ++ a)) = t := ⟨_, rfl⟩
  rw [htx] at HSa t1 t2 hta
  rw [hty] at HSb t1 t3 htb
  rw [htz] at HSz t1
  have HLa := Lib.hid la
  have HLb := Lib.hid lb
  have HLz := Lib.hid hz
  have HA := Lib.hid hs
  have HB := Lib.hid ks
  obtain ⟨sa, sc, rfl⟩ := hs.form2
  obtain ⟨ta, tc, rfl⟩ := ks.form2
  have d0 : decide (200 < (a.length : Int)) = false := decide_eq_false (by omega)
  have d1 : decide (200 < (b.length : Int)) = false := decide_eq_false (by omega)
  have HHa := Lib.hid fun s => hits_le g a s
  have HHb := Lib.hid fun s => hits_le g b s
  obtain ⟨n, hn⟩ : ∃ n, a.length = n := ⟨_, rfl⟩
  obtain ⟨m, hm⟩ : ∃ n, b.length = n := ⟨_, rfl⟩
  rw [hn] at d0 t2 HHa ha HA ⊢
  rw [hm] at d1 t3 HHb hb HB ⊢
  have HNA := Lib.hid hn
  have HNB := Lib.hid hm
  have HA0 := Lib.hid (HA.out.below (gbox_below g w))
  have HB0 := Lib.hid (HB.out.below (gbox_below g w))
  have HG0 := Lib.hid (GAt.box g w)
  have HW0 := Lib.hid (gbox_below g w)
  clear hs ks la lb hz htx hty htz hn hm
  have e9 : (tz == tx + ty) = true := by simpa using t1
  have e10 : decide (tx ≤ (n : Int)) = true := decide_eq_true t2
  clear t1
  go_enter Try.func5, Try.ntmps5
  go_upto_region 3 with fail
  refine startH (fun wq => Below (g.box w).heap.size (g.box w) wq) (by kernel_rfl) ?_
  refine takeH 0 (some 20) (g.v) rfl rfl (by kernel_rfl) (by kernel_rfl) (by kernel_rfl) (fun _ _ _ h => h) rfl (fun wq hS => by obtain ⟨c0, c1, c2, c3⟩ := HG0.out.below hS (by simp); go_simp) (Below.refl _ _).drew ?_
  try simp only [Act.put, List.setIfInBounds_toArray, List.set_cons_succ, List.set_cons_zero]
  refine takeH 1 (some 21) (.slice sa n sc) rfl rfl (by kernel_rfl) (by kernel_rfl) (by kernel_rfl) (fun _ _ _ h => h) rfl (fun wq hS => by go_simp) (Below.refl _ _).drew ?_
  try simp only [Act.put, List.setIfInBounds_toArray, List.set_cons_succ, List.set_cons_zero]
  refine takeH 3 (some 23) (g.v) rfl rfl (by kernel_rfl) (by kernel_rfl) (by kernel_rfl) (fun _ _ _ h => h) rfl (fun wq hS => by obtain ⟨c0, c1, c2, c3⟩ := HG0.out.below hS (by simp); go_simp) (Below.refl _ _).drew ?_
  try simp only [Act.put, List.setIfInBounds_toArray, List.set_cons_succ, List.set_cons_zero]
  refine takeH 4 (some 24) (.slice ta m tc) rfl rfl (by kernel_rfl) (by kernel_rfl) (by kernel_rfl) (fun _ _ _ h => h) rfl (fun wq hS => by go_simp) (Below.refl _ _).drew ?_
  try simp only [Act.put, List.setIfInBounds_toArray, List.set_cons_succ, List.set_cons_zero]
  refine oneH 2 (by kernel_rfl) rfl rfl fun K hK => ?_
  go_simp
  refine (CA.out _ _ HA0.out.drew).mono ?_
  rintro e w1 ⟨xv, rfl, ho, hb⟩
  have HS1 := Lib.hid (stay (Below.refl (g.box w).heap.size (g.box w)).drew hb)
  have HX1 := Lib.hid ho.ints
  have HB1 := Lib.hid (HB0.out.drew.below hb)
  refine hK _ _ HS1.out ?_
  clear hK K hb ho
  try simp only [Act.put, List.setIfInBounds_toArray, List.set_cons_succ, List.set_cons_zero]
  refine oneH 5 (by kernel_rfl) rfl rfl fun K hK => ?_
  go_simp
  refine (CB.out _ _ HB1.out).mono ?_
  rintro e w2 ⟨yv, rfl, ho, hb⟩
  have HS2 := Lib.hid (stay HS1.out hb)
  have HX2 := Lib.hid (HX1.out.below hb)
  have HY2 := Lib.hid ho.ints
  refine hK _ _ HS2.out ?_
  clear hK K hb ho
  try simp only [Act.put, List.setIfInBounds_toArray, List.set_cons_succ, List.set_cons_zero]
  refine takeH 6 (some 7) (xv) rfl rfl (by kernel_rfl) (by kernel_rfl) (by kernel_rfl) (fun _ _ _ h => h) rfl (fun wq hS => by go_simp) HS2.out ?_
  try simp only [Act.put, List.setIfInBounds_toArray, List.set_cons_succ, List.set_cons_zero]
  refine takeH 7 (some 8) (yv) rfl rfl (by kernel_rfl) (by kernel_rfl) (by kernel_rfl) (fun _ _ _ h => h) rfl (fun wq hS => by go_simp) HS2.out ?_
  try simp only [Act.put, List.setIfInBounds_toArray, List.set_cons_succ, List.set_cons_zero]
  refine wpAnyH_done (by kernel_rfl) ?_ _
  have HV2 := Lib.hid (HW0.out.trans (HS2.out.mono HW0.out.size))
  have HG2 : Hid (GAt w2 w.heap.size g ∧ w.heap.size < w2.heap.size) := Lib.hid ⟨HG0.out.below HS2.out (by simp), Nat.lt_of_lt_of_le (by simp) HS2.out.size⟩
  have HA2 := Lib.hid (HA0.out.below HS2.out)
  have HB2 := Lib.hid (HB0.out.below HS2.out)
  clear HS1 HX1 HB1 HA0 HB0 HG0 HS2
  obtain ⟨xa, xc, hxv⟩ := HX2.out.form2
  obtain ⟨ya, yc, hyv⟩ := HY2.out.form2
  rw [HLa.out] at hxv
  rw [HLb.out] at hyv
  subst hxv
  subst hyv
  go_upto_region 4 with fail
  refine startH (fun wq => Below w2.heap.size w2 wq) (by kernel_rfl) ?_
  refine takeH 0 (some 26) (g.v) rfl rfl (by kernel_rfl) (by kernel_rfl) (by kernel_rfl) (fun _ _ _ h => h) rfl (fun wq hS => by obtain ⟨c0, c1, c2, c3⟩ := HG2.out.1.below hS HG2.out.2; go_simp) (Below.refl _ _).drew ?_
  try simp only [Act.put, List.setIfInBounds_toArray, List.set_cons_succ, List.set_cons_zero]
  refine takeH 2 (some 28) (.slice ta m tc) rfl rfl (by kernel_rfl) (by kernel_rfl) (by kernel_rfl) (fun _ _ _ h => h) rfl (fun wq hS => by go_simp) (Below.refl _ _).drew ?_
  try simp only [Act.put, List.setIfInBounds_toArray, List.set_cons_succ, List.set_cons_zero]
  refine takeH 4 (some 30) (.slice sa n sc) rfl rfl (by kernel_rfl) (by kernel_rfl) (by kernel_rfl) (fun _ _ _ h => h) rfl (fun wq hS => by go_simp) (Below.refl _ _).drew ?_
  try simp only [Act.put, List.setIfInBounds_toArray, List.set_cons_succ, List.set_cons_zero]
  refine oneH 1 (by kernel_rfl) rfl rfl fun K hK => ?_
  go_simp
  have HS3 : Hid (Below w2.heap.size w2 (w2.drew.alloc (.cells #[] 3))) := Lib.hid ((Below.refl w2.heap.size w2).drew.alloc (Nat.le_refl _) _)
  have HO3 : Hid (Own (w2.drew.alloc (.cells #[] 3)) w2.heap.size (.slice (some ⟨w2.heap.size, 0, none⟩) 0 0) []) := Lib.hid (Own.lit w2.drew w2.heap.size (Nat.le_refl _) [] (by simp) _ rfl)
  refine hK _ _ HS3.out ?_
  clear hK K
  try simp only [Act.put, List.setIfInBounds_toArray, List.set_cons_succ, List.set_cons_zero]
  refine oneH 3 (by kernel_rfl) rfl rfl fun K hK => ?_
  refine app_W (.tmp 27) (.tmp 28) (some 29) rfl rfl HO3.out HS3.out.size (HB2.out.below HS3.out) (by have := HNB.out; simp only [List.length_nil]; omega) rfl rfl ?_
  intro s4 w4 ho hb
  rw [List.nil_append] at ho
  have HO4 := Lib.hid ho
  have HS4 := Lib.hid (HS3.out.trans hb)
  refine hK _ _ HS4.out ?_
  clear hK K hb ho
  try simp only [Act.put, List.setIfInBounds_toArray, List.set_cons_succ, List.set_cons_zero]
  refine oneH 5 (by kernel_rfl) rfl rfl fun K hK => ?_
  refine app_W (.tmp 29) (.tmp 30) (some 31) rfl rfl HO4.out HS4.out.size (HA2.out.below HS4.out) (by have := HNA.out; have := HNB.out; omega) rfl rfl ?_
  intro s5 w5 ho hb
  have HO5 := Lib.hid ho
  have HS5 := Lib.hid (HS4.out.trans hb)
  refine hK _ _ HS5.out ?_
  clear hK K hb ho
  try simp only [Act.put, List.setIfInBounds_toArray, List.set_cons_succ, List.set_cons_zero]
  refine oneH 6 (by kernel_rfl) rfl rfl fun K hK => ?_
  go_simp
  refine (CC.out _ _ HO5.out.ints).mono ?_
  rintro e w6 ⟨zv, rfl, ho, hb⟩
  have HS6 := Lib.hid (stay HS5.out hb)
  have HZ6 := Lib.hid ho.ints
  refine hK _ _ HS6.out ?_
  clear hK K hb ho
  try simp only [Act.put, List.setIfInBounds_toArray, List.set_cons_succ, List.set_cons_zero]
  refine takeH 7 (some 9) (zv) rfl rfl (by kernel_rfl) (by kernel_rfl) (by kernel_rfl) (fun _ _ _ h => h) rfl (fun wq hS => by go_simp) HS6.out ?_
  try simp only [Act.put, List.setIfInBounds_toArray, List.set_cons_succ, List.set_cons_zero]
  refine wpAnyH_done (by kernel_rfl) ?_ _
  have HX6 := Lib.hid (HX2.out.below HS6.out)
  have HY6 := Lib.hid (HY2.out.below HS6.out)
  have HV6 := Lib.hid (stay HV2.out HS6.out)
  obtain ⟨za, zc, hzv⟩ := HZ6.out.form2
  rw [HLz.out] at hzv
  subst hzv
  clear HS3 HO3 HO4 HS4 HO5 HS5 HS6 HX2 HY2 HV2 HG2 HA2 HB2
  have e1 : ((z : Int) != (z : Int)) = false := by simp
  go_wp2_with fail
  clear e1
  go_loopg [10] z (fun q i wx => ∃ (k : Nat) (W : World), W = wx ∧ z - k ≤ q ∧ k ≤ z ∧ i = .int .i64 k ∧ Below w6.heap.size w6 W)
  case atStart => exact ⟨0, _, rfl, by omega, by omega, rfl, Below.refl _ _⟩
  case round =>
    obtain ⟨k, wr, rfl, hq, hk, rfl, hb⟩ := hrel
    have HW := Lib.hid hb
    clear hb
    by_cases hlt : k < z
    · have hk1 : (k : Int) < (z : Int) := by omega
      obtain ⟨bx, ox, rfl, x1⟩ := HX6.out.cell2 k _ (HCa.out k hlt)
      obtain ⟨bY, oY, rfl, x2⟩ := HY6.out.cell2 k _ (HCb.out k hlt)
      obtain ⟨bz, oz, rfl, x3⟩ := HZ6.out.cell2 k _ (HCz.out k hlt)
      have q1 := (HW.out.cell (block_lt_of_cell x1)).trans x1
      have q2 := (HW.out.cell (block_lt_of_cell x2)).trans x2
      have q3 := (HW.out.cell (block_lt_of_cell x3)).trans x3
      have p1 := HHa.out k
      have p2 := HHb.out k
      rw [hits_append] at q3
      obtain ⟨u, hu⟩ : ∃ u, hits g a k = u := ⟨_, rfl⟩
      obtain ⟨v, hv⟩ : ∃ v, hits g b k = v := ⟨_, rfl⟩
      rw [hu] at q1 q3 p1
      rw [hv] at q2 q3 p2
      obtain ⟨s, hs⟩ : ∃ s : Int, ((v + u : Nat) : Int) = s := ⟨_, rfl⟩
      rw [hs] at q3
      have e1 : (s != (u : Int) + (v : Int)) = false := by rw [← hs]; simp; omega
      have e2 : decide ((u : Int) < 0) = false := decide_eq_false (by omega)
      have e3 : decide ((n : Int) < (u : Int)) = false := decide_eq_false (by omega)
      clear x1 x2 x3 hu hv hs
      go_wp2_with fail
      go_quiet (fail)
      go_wp2_with fail
      go_roundg (z - (k + 1))
      case measure => omega
      case rel => exact ⟨k + 1, _, rfl, by omega, by omega, by go_num, drewN_below HW.out _⟩
    · obtain rfl : k = z := by omega
      have hk1 : ¬ (k : Int) < (k : Int) := by omega
      have S1 := Lib.hid (HSz.out _ _ (HZ6.out.below HW.out))
      have S2 := Lib.hid (HSa.out _ _ (HX6.out.below HW.out))
      have S3 := Lib.hid (HSb.out _ _ (HY6.out.below HW.out))
      have S4 := Lib.hid (free_any [] (by decide) 0 _ _ (IntsAt.nil wr 0 none))
      rw [show frees [] 0 = [] from rfl] at S4
      go_wp2_with fail
      refine S1.out.mono ?_
      rintro e w7 ⟨rfl, rfl⟩
      go_wp2_with fail
      refine S2.out.mono ?_
      rintro e w7 ⟨rfl, rfl⟩
      go_wp2_with fail
      refine S3.out.mono ?_
      rintro e w7 ⟨rfl, rfl⟩
      go_wp2_with fail
      refine S2.out.mono ?_
      rintro e w7 ⟨rfl, rfl⟩
      go_wp2_with fail
      refine S4.out.mono ?_
      rintro e w8 ⟨fv, rfl, ho, hb⟩
      obtain ⟨fa, fc, rfl⟩ := ho.ints.form2
      have HB8 := Lib.hid (stay HW.out hb)
      simp only [List.length_nil]
      clear ho hb
      go_wp2_with fail
      refine (HK.out _).mono ?_
      rintro e w9 ⟨rfl, hb⟩
      have HB9 := Lib.hid (stay HV6.out (HB8.out.trans (hb.mono HB8.out.size)))
      clear hb
      go_wp2_with fail
      go_ret
      exact ⟨rfl, HB9.out⟩
theorem adds_any (g : Gm) (a b : List Int) (av bv : Value) (w : World) (hs : IntsAt w av a) (ks : IntsAt w bv b) : Calls Try.prog 5 #[g.v, av, bv] w fun e w' => e = .returned (.bool true) ∧ Below w.heap.size w w' := by
  by_cases ha : a.length ≤ 200
  · by_cases hb : b.length ≤ 200
    · exact adds_yes g a b ha hb av bv w hs ks
    · exact adds_big2 g a b ha (by omega) av bv w hs ks
  · exact adds_big1 g a b (by omega) av bv w hs ks
end Go.Proofs.Ytieliobkcbpjiaa
