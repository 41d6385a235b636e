/- A region's sectors, laid: package region's lay. -/
import Derived.Test.YtoiekieddkadmaaDoorProb
namespace Go.Proofs.YtoiekieddkadmaaDoor
set_option linter.unusedSimpArgs false
set_option linter.unusedVariables false
open Go.RowKit

theorem u8s_set (L : List Int) (i : Nat) (x : Int) : (u8s L).set i (.int .u8 x) = u8s (L.set i x) := by simp [List.map_set]
theorem front_set {H t : List Int} {n o : Nat} (x : Int) (h : H.length = o) : (H ++ (zeros (n + 1) ++ t)).set o x = (H ++ [x]) ++ (zeros n ++ t) := by
  subst h
  rw [List.set_append_right _ _ (Nat.le_refl _), Nat.sub_self]
  simp [zeros, List.replicate_succ]
theorem front_lay {H t bs : List Int} {n o : Nat} (h : H.length = o) (hn : bs.length ≤ n) : layI (H ++ (zeros n ++ t)) o bs = (H ++ bs) ++ (zeros (n - bs.length) ++ t) := by
  rw [layI_front h, List.append_assoc, List.drop_append_of_le_length (by rw [zeros_length]; exact hn), zeros_drop]
def Rg.hh (r : Rg) (n : Int) : List Int := 82 :: n :: le 4 r.gen
theorem hh_length (r : Rg) (n : Int) : (r.hh n).length = 6 := by simp [Rg.hh, le_length]
/-- How far the two sectors are laid. -/
def Rg.la (r : Rg) (k : Nat) : List Int := if k = 0 then zeros 128 else if k = 1 then r.hh 0 ++ (zeros 58 ++ zeros 64) else r.hh 0 ++ (zeros 58 ++ (r.hh 1 ++ zeros 58))
def Rg.lb (r : Rg) (k : Nat) : List Int := (r.hh 0 ++ r.six.take k) ++ (zeros (58 - k) ++ (r.hh 1 ++ zeros 58))
def Rg.lc (r : Rg) : List Int := r.b0 ++ (zeros 48 ++ (r.hh 1 ++ zeros 58))
def Rg.ld (r : Rg) (k : Nat) : List Int := (r.b0 ++ (zeros 48 ++ (r.hh 1 ++ flat2 (r.rs.take k)))) ++ (zeros (58 - 2 * k) ++ [])
theorem la_one (r : Rg) : layI (((r.la 0).set 0 82).set 1 0) 2 (le 4 r.gen) = r.la 1 := by
  have e : ((r.la 0).set 0 82).set 1 0 = [82, 0] ++ (zeros 126 ++ []) := rfl
  rw [e, front_lay (n := 126) (o := 2) (H := [82, 0]) rfl (by simp [le_length])]
  simp only [le_length]
  rfl
theorem la_two (r : Rg) : layI (((r.la 1).set 64 82).set 65 1) 66 (le 4 r.gen) = r.la 2 := by
  have e : ((r.la 1).set 64 82).set 65 1 = (r.hh 0 ++ (zeros 58 ++ [82, 1])) ++ (zeros 62 ++ []) := rfl
  rw [e, front_lay (by simp [hh_length, zeros_length]) (by simp [le_length])]
  simp only [le_length]
  simp [Rg.la, Rg.hh, List.append_assoc]
theorem lb_zero (r : Rg) : r.la 2 = r.lb 0 := by simp [Rg.la, Rg.lb]
theorem lb_next {r : Rg} {k : Nat} {x : Int} (hk : k < 6) (h : r.six[k]? = some x) : (r.lb k).set (6 + k) x = r.lb (k + 1) := by
  unfold Rg.lb
  rw [show 58 - k = (57 - k) + 1 by omega, front_set x (by simp [hh_length, Rg.six]; omega), List.take_add_one, h, show 58 - (k + 1) = 57 - k by omega]
  simp [List.append_assoc]
theorem lc_of (r : Rg) : layI (r.lb 6) 12 (le 4 r.seq) = r.lc := by
  have e : r.lb 6 = (r.hh 0 ++ r.six) ++ (zeros 52 ++ (r.hh 1 ++ zeros 58)) := rfl
  rw [e, front_lay (by simp [hh_length, Rg.six]) (by simp [le_length])]
  simp only [le_length]
  simp [Rg.lc, Rg.b0, Rg.hh, List.append_assoc]
theorem ld_zero (r : Rg) : r.lc = r.ld 0 := by simp [Rg.lc, Rg.ld, flat2, List.append_assoc]
theorem b0_length (r : Rg) : r.b0.length = 16 := by simp [Rg.b0, Rg.six, le_length]
theorem ld_next {r : Rg} {k : Nat} {x : Int} (hk : k < 8) (hl : r.rs.length = 8) (h : r.rs[k]? = some x) : layI (r.ld k) (70 + 2 * k) (le 2 x) = r.ld (k + 1) := by
  unfold Rg.ld
  rw [front_lay (by simp [b0_length, zeros_length, hh_length, flat2_length, hl]; omega) (by rw [le_length]; omega), flat2_snoc h, le_length, show 58 - 2 * k - 2 = 58 - 2 * (k + 1) by omega]
  simp [List.append_assoc]
theorem ld_eight {r : Rg} (hl : r.rs.length = 8) : r.ld 8 = r.enc := by
  unfold Rg.ld Rg.enc Rg.s0 Rg.s1 Rg.b1
  rw [List.take_of_length_le (by omega)]
  simp [Rg.hh, List.append_assoc]
theorem six_cell {r : Rg} {k : Nat} {x : Int} (h : r.six[k]? = some x) : r.cells[1 + k]? = some (.int .i64 x) := by
  have hk : k < 6 := (List.getElem?_eq_some_iff.1 h).1
  rcases (show k = 0 ∨ k = 1 ∨ k = 2 ∨ k = 3 ∨ k = 4 ∨ k = 5 by omega) with rfl | rfl | rfl | rfl | rfl | rfl <;> (cases h; rfl)
theorem lay_len (r : Rg) (k : Nat) (hl : r.rs.length = 8) (hk : k ≤ 8) : (r.ld k).length = 128 := by
  unfold Rg.ld
  simp [b0_length, zeros_length, hh_length, flat2_length, hl]
  omega
theorem lb_len (r : Rg) (k : Nat) (hk : k ≤ 6) : (r.lb k).length = 128 := by
  unfold Rg.lb
  simp [zeros_length, hh_length, Rg.six]
  omega
theorem la_len (r : Rg) (k : Nat) : (r.la k).length = 128 := by
  unfold Rg.la
  split
  · exact zeros_length _
  · split <;> simp [zeros_length, hh_length]
theorem Blk.u8 {w : World} {g i : Nat} {L : List Int} (h : Blk w g (u8s L)) (hi : i < L.length) : w.cell? ⟨g, i, none⟩ = some (.int .u8 (L.getD i 0)) := h.cell (by
  rw [List.getElem?_map, List.getD_eq_getElem?_getD, List.getElem?_eq_getElem hi]
  rfl)
theorem Blk.setU8 {w : World} {g : Nat} {L : List Int} (h : Blk w g (u8s L)) (i : Nat) (x : Int) : Blk (w.setCell ⟨g, i, none⟩ (.int .u8 x)) g (u8s (L.set i x)) := by
  have := h.set i (.int .u8 x)
  rwa [u8s_set] at this
/-- What is known while the sectors are laid. -/
structure LS (W w : World) (a b c : Nat) (r : Rg) (L : List Int) : Prop where
  blk : Blk w a r.cells
  res : Blk w b (u8s (zeros 128))
  sec : Blk w c (u8s L)
  bel : Below W.heap.size W w
  ab : a ≠ b
  ac : a ≠ c
  bc : b ≠ c
  lb : W.heap.size ≤ b
  lc : W.heap.size ≤ c
theorem LS.below {W w w' : World} {a b c : Nat} {r : Rg} {L : List Int} (h : LS W w a b c r L) (hb : Below w.heap.size w w') : LS W w' a b c r L :=
  ⟨h.blk.below hb h.blk.lt, h.res.below hb h.res.lt, h.sec.below hb h.sec.lt, h.bel.trans (hb.mono h.bel.size), h.ab, h.ac, h.bc, h.lb, h.lc⟩
theorem LS.drew {W w : World} {a b c : Nat} {r : Rg} {L : List Int} (h : LS W w a b c r L) : LS W w.drew a b c r L := h.below (Below.refl _ _).drew
theorem LS.put {W w w' : World} {a b c : Nat} {r : Rg} {L M : List Int} (h : LS W w a b c r L) (ho : Only (fun k => k = c) w w') (hs : Blk w' c (u8s M)) : LS W w' a b c r M :=
  ⟨h.blk.only ho h.ac, h.res.only ho h.bc, hs, h.bel.trans (ho.below h.bel.size fun k hk => by rw [hk]; exact h.lc), h.ab, h.ac, h.bc, h.lb, h.lc⟩
theorem LS.set {W w : World} {a b c : Nat} {r : Rg} {L : List Int} (h : LS W w a b c r L) (i : Nat) (x : Int) : LS W (w.setCell ⟨c, i, none⟩ (.int .u8 x)) a b c r (L.set i x) :=
  h.put ((Only.refl (fun k => k = c) w).setCell (p := ⟨c, i, none⟩) (.inl rfl) _) (h.sec.setU8 i x)
theorem put4_at (w : World) (g o cap : Nat) (L M : List Int) (hb : Blk w g (u8s L)) (ho : o + 4 ≤ L.length) (v : Int) (hv : U32 v) (hm : layI L o (le 4 v) = M) :
    Calls Tryd.prog 48 #[.slice (some ⟨g, o, none⟩) 4 cap, .int .u32 v] w fun e w' => e = .returned (.tuple #[]) ∧ Blk w' g (u8s M) ∧ Only (fun k => k = g) w w' := by
  have := put4_any w g o cap (u8s L) hb (by simpa using ho) v hv
  rwa [lay_u8s, hm] at this
theorem put2_at (w : World) (g o cap : Nat) (L M : List Int) (hb : Blk w g (u8s L)) (ho : o + 2 ≤ L.length) (v : Int) (hv : 0 ≤ v ∧ v < 65536) (hm : layI L o (le 2 v) = M) :
    Calls Tryd.prog 48 #[.slice (some ⟨g, o, none⟩) 2 cap, .int .u32 v] w fun e w' => e = .returned (.tuple #[]) ∧ Blk w' g (u8s M) ∧ Only (fun k => k = g) w w' := by
  have := put2_any w g o cap (u8s L) hb (by simpa using ho) v ⟨hv.1, by omega⟩
  rwa [lay_u8s, hm] at this

set_option maxRecDepth 100000 in
theorem lay_any (r : Rg) (hw : r.Wf) (hg : r.good = true) (w : World) : Calls Tryd.prog 39 #[.agg r.cells.toArray] w fun e w' => e = .returned (.agg (u8s r.enc).toArray) ∧ Below w.heap.size w w' := by
  have HWF := Lib.hid hw
  have HGD := Lib.hid hg
  have HZ128 := Lib.hid (zeros_length 128)
  have HBL : Hid (Below w.heap.size w w) := Lib.hid (Below.refl _ _)
  clear hw hg
  go_enter Tryd.func39, Tryd.ntmps39
  go_upto_region 0 with fail
  refine wp_region_lit ?_
  refine box_g rfl rfl ?_
  intro w1 hA hb hl
  try simp only [Act.put, List.setIfInBounds_toArray, List.set_cons_succ, List.set_cons_zero]
  clear hl
  have HG2 : Hid (w.heap.size ≤ w.heap.size) := Lib.hid HBL.out.size
  have F3 := Lib.hid (HBL.out.trans (hb.mono HBL.out.size))
  clear HBL
  have F4 : Hid (Blk w1 w.heap.size r.cells) := Lib.hid hA
  clear hA hb
  refine alloc_g zero50 rfl ?_
  intro w5 hA hb hl
  try simp only [Act.put, List.setIfInBounds_toArray, List.set_cons_succ, List.set_cons_zero]
  clear hl
  have HN6 := Lib.hid (Nat.ne_of_lt F4.out.lt)
  have HG7 : Hid (w.heap.size ≤ w1.heap.size) := Lib.hid F3.out.size
  have F8 := Lib.hid (F3.out.trans (hb.mono F3.out.size))
  have F9 := Lib.hid (F4.out.below hb F4.out.lt)
  clear F3 F4
  have F10 : Hid (Blk w5 w1.heap.size (u8s (zeros 128))) := Lib.hid hA
  clear hA hb
  generalize w1.heap.size = g11 at *
  clear w1
  refine wpList_nil ?_
  go_upto_region 1 with fail
  refine wp_region_lit ?_
  refine alloc_g zero50 rfl ?_
  intro w12 hA hb hl
  try simp only [Act.put, List.setIfInBounds_toArray, List.set_cons_succ, List.set_cons_zero]
  clear hl
  have HN13 := Lib.hid (Nat.ne_of_lt F9.out.lt)
  have HN14 := Lib.hid (Nat.ne_of_lt F10.out.lt)
  have HG15 : Hid (w.heap.size ≤ w5.heap.size) := Lib.hid F8.out.size
  have F16 := Lib.hid (F8.out.trans (hb.mono F8.out.size))
  have F17 := Lib.hid (F9.out.below hb F9.out.lt)
  have F18 := Lib.hid (F10.out.below hb F10.out.lt)
  clear F8 F9 F10
  have F19 : Hid (Blk w12 w5.heap.size (u8s (zeros 128))) := Lib.hid hA
  clear hA hb
  generalize w5.heap.size = g20 at *
  clear w5
  refine wpList_nil ?_
  have HL : Hid (LS w w12 w.heap.size g11 g20 r (r.la 0)) := Lib.hid ⟨F17.out, F18.out, F19.out, F16.out, HN6.out, HN13.out, HN14.out, HG7.out, HG15.out⟩
  clear F17 F18 F19 F16 HN6 HN13 HN14 HG2 HG7 HG15

  go_wp2_with fail
  go_loopg [9] 2 (fun q i wr => ∃ k : Nat, 2 - k ≤ q ∧ k ≤ 2 ∧ i = .int .i64 k ∧ LS w wr w.heap.size g11 g20 r (r.la k))
  case atStart => exact ⟨0, by omega, by omega, rfl, HL.out⟩
  case round =>
    obtain ⟨k, hq, hk, rfl, hls⟩ := hrel
    have HM := Lib.hid hls
    clear HL hls
    rcases (show k = 0 ∨ k = 1 ∨ k = 2 by omega) with rfl | rfl | rfl
    · have d0 := HM.out.sec.u8 (i := 0) (by rw [la_len]; decide)
      have d1 := HM.out.sec.u8 (i := 1) (by rw [la_len]; decide)
      have f0 := HM.out.sec.frozen 0
      have f1 := HM.out.sec.frozen 1
      go_upto_region 5 with fail
      go_region
      have HM5 := Lib.hid ((HM.out.set 0 82).set 1 0).drew
      clear HM d0 d1 f0 f1
      generalize ((wr.setCell ⟨g20, 0, none⟩ (.int .u8 82)).setCell ⟨g20, 1, none⟩ (.int .u8 0)).drew = w5 at *
      clear wr
      go_upto_region 6 with fail
      refine startH (fun wq => Blk wq w.heap.size r.cells) (by kernel_rfl) ?_
      refine takeH 0 (some 20) (.int .i64 (((0 : Nat) : Int))) rfl rfl (by kernel_rfl) (by kernel_rfl) (by kernel_rfl) (fun _ _ _ h => h) rfl (fun wq hS => by go_simp) HM5.out.drew.blk ?_
      try simp only [Act.put, List.setIfInBounds_toArray, List.set_cons_succ, List.set_cons_zero]
      refine takeH 1 (some 21) (.pointer (some ⟨g20, 0, none⟩)) rfl rfl (by kernel_rfl) (by kernel_rfl) (by kernel_rfl) (fun _ _ _ h => h) rfl (fun wq hS => by go_simp) HM5.out.drew.blk ?_
      try simp only [Act.put, List.setIfInBounds_toArray, List.set_cons_succ, List.set_cons_zero]
      refine takeH 2 (some 22) (.slice (some ⟨g20, 2, none⟩) 4 62) rfl rfl (by kernel_rfl) (by kernel_rfl) (by kernel_rfl) (fun _ _ _ h => h) rfl (fun wq hS => by go_simp) HM5.out.drew.blk ?_
      try simp only [Act.put, List.setIfInBounds_toArray, List.set_cons_succ, List.set_cons_zero]
      refine takeH 3 (some 23) (.pointer (some ⟨w.heap.size, 0, none⟩)) rfl rfl (by kernel_rfl) (by kernel_rfl) (by kernel_rfl) (fun _ _ _ h => h) rfl (fun wq hS => by go_simp) HM5.out.drew.blk ?_
      try simp only [Act.put, List.setIfInBounds_toArray, List.set_cons_succ, List.set_cons_zero]
      refine takeH 4 (some 24) (.int .u32 r.gen) rfl rfl (by kernel_rfl) (by kernel_rfl) (by kernel_rfl) (fun _ _ _ h => h) rfl (fun wq hS => by have hq := hS.cell (i := 0) (v := .int .u32 r.gen) rfl; go_simp) HM5.out.drew.blk ?_
      try simp only [Act.put, List.setIfInBounds_toArray, List.set_cons_succ, List.set_cons_zero]
      refine oneH 5 (by kernel_rfl) rfl rfl fun K hK => ?_
      go_simp
      refine (put4_at _ g20 2 62 _ _ HM5.out.drew.sec (by rw [List.length_set, List.length_set, la_len]; decide) r.gen HWF.out.gen (la_one r)).mono ?_
      rintro e w6 ⟨rfl, hs, ho⟩
      have HM6 := Lib.hid (HM5.out.drew.put ho hs)
      clear hs ho
      refine hK _ _ HM6.out.blk ?_
      clear hK K
      try simp only [Act.put, List.setIfInBounds_toArray, List.set_cons_succ, List.set_cons_zero]
      refine wpAnyH_done (by kernel_rfl) ?_ _
      go_wp2_with fail
      go_roundg (2 - (0 + 1))
      case measure => omega
      case rel => exact ⟨1, by omega, by omega, by go_num, HM6.out⟩
    · have d0 := HM.out.sec.u8 (i := 64) (by rw [la_len]; decide)
      have d1 := HM.out.sec.u8 (i := 65) (by rw [la_len]; decide)
      have f0 := HM.out.sec.frozen 64
      have f1 := HM.out.sec.frozen 65
      go_upto_region 5 with fail
      go_region
      have HM5 := Lib.hid ((HM.out.set 64 82).set 65 1).drew
      clear HM d0 d1 f0 f1
      generalize ((wr.setCell ⟨g20, 64, none⟩ (.int .u8 82)).setCell ⟨g20, 65, none⟩ (.int .u8 1)).drew = w5 at *
      clear wr
      go_upto_region 6 with fail
      refine startH (fun wq => Blk wq w.heap.size r.cells) (by kernel_rfl) ?_
      refine takeH 0 (some 20) (.int .i64 (((1 : Nat) : Int))) rfl rfl (by kernel_rfl) (by kernel_rfl) (by kernel_rfl) (fun _ _ _ h => h) rfl (fun wq hS => by go_simp) HM5.out.drew.blk ?_
      try simp only [Act.put, List.setIfInBounds_toArray, List.set_cons_succ, List.set_cons_zero]
      refine takeH 1 (some 21) (.pointer (some ⟨g20, 64, none⟩)) rfl rfl (by kernel_rfl) (by kernel_rfl) (by kernel_rfl) (fun _ _ _ h => h) rfl (fun wq hS => by go_simp) HM5.out.drew.blk ?_
      try simp only [Act.put, List.setIfInBounds_toArray, List.set_cons_succ, List.set_cons_zero]
      refine takeH 2 (some 22) (.slice (some ⟨g20, 66, none⟩) 4 62) rfl rfl (by kernel_rfl) (by kernel_rfl) (by kernel_rfl) (fun _ _ _ h => h) rfl (fun wq hS => by go_simp) HM5.out.drew.blk ?_
      try simp only [Act.put, List.setIfInBounds_toArray, List.set_cons_succ, List.set_cons_zero]
      refine takeH 3 (some 23) (.pointer (some ⟨w.heap.size, 0, none⟩)) rfl rfl (by kernel_rfl) (by kernel_rfl) (by kernel_rfl) (fun _ _ _ h => h) rfl (fun wq hS => by go_simp) HM5.out.drew.blk ?_
      try simp only [Act.put, List.setIfInBounds_toArray, List.set_cons_succ, List.set_cons_zero]
      refine takeH 4 (some 24) (.int .u32 r.gen) rfl rfl (by kernel_rfl) (by kernel_rfl) (by kernel_rfl) (fun _ _ _ h => h) rfl (fun wq hS => by have hq := hS.cell (i := 0) (v := .int .u32 r.gen) rfl; go_simp) HM5.out.drew.blk ?_
      try simp only [Act.put, List.setIfInBounds_toArray, List.set_cons_succ, List.set_cons_zero]
      refine oneH 5 (by kernel_rfl) rfl rfl fun K hK => ?_
      go_simp
      refine (put4_at _ g20 66 62 _ _ HM5.out.drew.sec (by rw [List.length_set, List.length_set, la_len]; decide) r.gen HWF.out.gen (la_two r)).mono ?_
      rintro e w6 ⟨rfl, hs, ho⟩
      have HM6 := Lib.hid (HM5.out.drew.put ho hs)
      clear hs ho
      refine hK _ _ HM6.out.blk ?_
      clear hK K
      try simp only [Act.put, List.setIfInBounds_toArray, List.set_cons_succ, List.set_cons_zero]
      refine wpAnyH_done (by kernel_rfl) ?_ _
      go_wp2_with fail
      go_roundg (2 - (1 + 1))
      case measure => omega
      case rel => exact ⟨2, by omega, by omega, by go_num, HM6.out⟩
    · go_wp2_with fail
      refine (small_at w.heap.size _).mono ?_
      rintro e w7 ⟨rfl, hb⟩
      have HN := Lib.hid (HM.out.below hb)
      rw [lb_zero] at HN
      clear hb HM
      clear wr
      go_wp2_with fail
      go_loopg [28] 6 (fun q i wr => ∃ k : Nat, 6 - k ≤ q ∧ k ≤ 6 ∧ i = .int .i64 k ∧ LS w wr w.heap.size g11 g20 r (r.lb k))
      case atStart => exact ⟨0, by omega, by omega, rfl, HN.out⟩
      case round =>
        obtain ⟨k, hq, hk, rfl, hls⟩ := hrel
        have HM := Lib.hid hls
        clear HN hls
        clear w7
        by_cases h6 : k < 6
        · obtain ⟨x, hx⟩ : ∃ x, r.six[k]? = some x := ⟨_, List.getElem?_eq_getElem (by simpa [Rg.six] using h6)⟩
          have HX := Lib.hid hx
          obtain ⟨hx0, hx1⟩ := six_byte HGD.out x (List.mem_of_getElem? hx)
          clear hx
          have hi := sixAt_at w.heap.size k h6
          have d0 := HM.out.sec.u8 (i := 6 + k) (by rw [lb_len r k (by omega)]; omega)
          have f0 := HM.out.sec.frozen (6 + k)
          have c0 := HM.out.blk.cell (six_cell HX.out)
          go_wp2_with fail
          go_roundg (6 - (k + 1))
          case measure => omega
          case rel =>
            have hs := HM.out.set (6 + k) x
            rw [lb_next h6 HX.out] at hs
            exact ⟨k + 1, by omega, by omega, by go_num, hs⟩
        · obtain rfl : k = 6 := by omega
          go_upto_region 13 with fail
          refine startH (fun wq => Blk wq w.heap.size r.cells) (by kernel_rfl) ?_
          refine takeH 0 (some 41) (.pointer (some ⟨g20, 0, none⟩)) rfl rfl (by kernel_rfl) (by kernel_rfl) (by kernel_rfl) (fun _ _ _ h => h) rfl (fun wq hS => by go_simp) HM.out.drew.blk ?_
          try simp only [Act.put, List.setIfInBounds_toArray, List.set_cons_succ, List.set_cons_zero]
          refine takeH 1 (some 42) (.slice (some ⟨g20, 12, none⟩) 4 52) rfl rfl (by kernel_rfl) (by kernel_rfl) (by kernel_rfl) (fun _ _ _ h => h) rfl (fun wq hS => by go_simp) HM.out.drew.blk ?_
          try simp only [Act.put, List.setIfInBounds_toArray, List.set_cons_succ, List.set_cons_zero]
          refine takeH 2 (some 43) (.pointer (some ⟨w.heap.size, 7, none⟩)) rfl rfl (by kernel_rfl) (by kernel_rfl) (by kernel_rfl) (fun _ _ _ h => h) rfl (fun wq hS => by go_simp) HM.out.drew.blk ?_
          try simp only [Act.put, List.setIfInBounds_toArray, List.set_cons_succ, List.set_cons_zero]
          refine takeH 3 (some 44) (.int .u32 r.seq) rfl rfl (by kernel_rfl) (by kernel_rfl) (by kernel_rfl) (fun _ _ _ h => h) rfl (fun wq hS => by have hq := hS.cell (i := 7) (v := .int .u32 r.seq) rfl; go_simp) HM.out.drew.blk ?_
          try simp only [Act.put, List.setIfInBounds_toArray, List.set_cons_succ, List.set_cons_zero]
          refine oneH 4 (by kernel_rfl) rfl rfl fun K hK => ?_
          go_simp
          refine (put4_at _ g20 12 52 _ _ HM.out.drew.sec (by rw [lb_len r 6 (by omega)]; decide) r.seq HWF.out.seq (lc_of r)).mono ?_
          rintro e w8 ⟨rfl, hs, ho⟩
          have HN := Lib.hid (HM.out.drew.put ho hs)
          rw [ld_zero] at HN
          clear hs ho
          refine hK _ _ HN.out.blk ?_
          clear hK K HM
          clear wr
          try simp only [Act.put, List.setIfInBounds_toArray, List.set_cons_succ, List.set_cons_zero]
          refine wpAnyH_done (by kernel_rfl) ?_ _
          go_upto_region 14 with fail
          refine wp_region_lit ?_
          refine takeL (.pointer (some ⟨w.heap.size, 8, none⟩)) rfl (by go_simp) ?_
          try simp only [Act.put, List.setIfInBounds_toArray, List.set_cons_succ, List.set_cons_zero]
          refine load25 (cs := (i64s r.rs).toArray) (Rg.at25 HN.out.blk) (by rw [List.size_toArray, List.length_map, HWF.out.len]) rfl rfl ?_
          try simp only [Act.put, List.setIfInBounds_toArray, List.set_cons_succ, List.set_cons_zero]
          refine takeL (.int .i64 0) rfl (by go_simp) ?_
          try simp only [Act.put, List.setIfInBounds_toArray, List.set_cons_succ, List.set_cons_zero]
          refine wpList_nil ?_
          go_wp2_with fail
          go_loopg [48] 8 (fun q i wr => ∃ k : Nat, 8 - k ≤ q ∧ k ≤ 8 ∧ i = .int .i64 k ∧ LS w wr w.heap.size g11 g20 r (r.ld k))
          case atStart => exact ⟨0, by omega, by omega, rfl, HN.out⟩
          case round =>
            obtain ⟨k, hq, hk, rfl, hls⟩ := hrel
            have HM := Lib.hid hls
            clear HN hls
            clear w8
            by_cases h8 : k < 8
            · obtain ⟨x, hx⟩ : ∃ x, r.rs[k]? = some x := ⟨_, List.getElem?_eq_getElem (by rw [HWF.out.len]; exact h8)⟩
              have HX := Lib.hid hx
              obtain ⟨hx0, hx1⟩ := good_all HGD.out HWF.out.len x (List.mem_of_getElem? hx)
              clear hx
              obtain ⟨i3, hi3, hi3s⟩ := size_of info3
              have hi := fun w => run_index_ints (P := Tryd.prog) w 25 3 8 _ .i64 i3 r.rs Tryd.underlying25 Tryd.underlying3 hi3 hi3s HWF.out.len k x HX.out
              clear hi3 hi3s
              have HRA := Lib.hid fun w => rootAt_any w g20 k h8
              go_wp2_with fail
              refine (HRA.out _).mono ?_
              rintro e w9 ⟨rfl, rfl⟩
              go_wp2_with fail
              refine (put2_at _ g20 (70 + 2 * k) (58 - 2 * k) _ _ HM.out.sec (by rw [lay_len r k HWF.out.len (by omega)]; omega) x ⟨hx0, hx1⟩ (ld_next h8 HWF.out.len HX.out)).mono ?_
              rintro e w9 ⟨rfl, hs, ho⟩
              have HN := Lib.hid (HM.out.put ho hs)
              clear hs ho
              go_wp2_with fail
              go_roundg (8 - (k + 1))
              case measure => omega
              case rel => exact ⟨k + 1, by omega, by omega, by go_num, HN.out⟩
            · obtain rfl : k = 8 := by omega
              rw [ld_eight HWF.out.len] at HM
              have HE := Lib.hid (enc_length HWF.out.len)
              go_upto_region 19 with fail
              refine wp_region_lit ?_
              refine load50 (cs := (u8s r.enc).toArray) (Blk.all HM.out.sec rfl) (by rw [u8s_size, HE.out]) rfl rfl ?_
              try simp only [Act.put, List.setIfInBounds_toArray, List.set_cons_succ, List.set_cons_zero]
              refine store_all (cs := (u8s r.enc).toArray) HM.out.res (by rw [u8s_size, HE.out, List.length_map, HZ128.out]) (by rw [u8s_size, HE.out]; exact info50) (u8s_one _) rfl rfl rfl ?_
              intro wz hD hO hl
              try simp only [Act.put, List.setIfInBounds_toArray, List.set_cons_succ, List.set_cons_zero]
              have HB := Lib.hid (HM.out.bel.trans (hO.below HM.out.bel.size (fun k hk => by rw [hk]; exact HM.out.lb)))
              refine wpList_nil ?_
              go_wp2_with fail
              exact bodyPost_ret (v := .agg (u8s r.enc).toArray) (results_cell_at rfl _ _ g11 0 _ _ rfl Tryd.underlying50 rfl (by rw [u8s_size, HE.out]; exact info50) (Blk.all hD rfl)) rfl ⟨rfl, HB.out⟩
end Go.Proofs.YtoiekieddkadmaaDoor
