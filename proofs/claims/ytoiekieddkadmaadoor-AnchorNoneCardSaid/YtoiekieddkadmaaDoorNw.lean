/- The newest of the two regions. -/
import Derived.Test.YtoiekieddkadmaaDoorRa
namespace Go.Proofs.YtoiekieddkadmaaDoor
set_option linter.unusedSimpArgs false
set_option linter.unusedVariables false
open Go.RowKit

def at3 {A : Type} (a b c : A) (k : Nat) : A := if k = 0 then a else if k = 1 then b else c
set_option maxRecDepth 100000 in
set_option maxHeartbeats 4000000 in
theorem newest_nil (w : World) : Calls Tryd.prog 5 #[.pointer none] w fun e w' => e = .returned (.tuple #[.agg Rg.none.cells.toArray, .int .i64 1]) ∧ Below w.heap.size w w' := by
  have HWN := Lib.hid none_wf
  have HBL : Hid (Below w.heap.size w w) := Lib.hid (Below.refl _ _)
  go_enter Tryd.func5, Tryd.ntmps5
  go_upto_region 0 with fail
  refine wp_region_lit ?_
  refine alloc_g zero27 rfl ?_
  intro w1 hA hb hl
  try simp only [Act.put, List.setIfInBounds_toArray, List.set_cons_succ, List.set_cons_zero]
  have HBLn := Lib.hid (HBL.out.trans (hb.mono HBL.out.size))
  have F2 : Hid (Blk w1 w.heap.size (Rg.none.cells)) := Lib.hid (by first | exact hA | simpa using hA)
  have GEg0 := Lib.hid HBL.out.size
  clear HBL
  have HBL := HBLn
  clear HBLn
  clear hA hb hl
  refine takeL (.int .i64 0) rfl (by go_simp) ?_
  try simp only [Act.put, List.setIfInBounds_toArray, List.set_cons_succ, List.set_cons_zero]
  refine wpList_nil ?_
  go_upto_region 1 with fail
  refine wp_region_lit ?_
  refine takeL (.pointer none) rfl (by go_simp) ?_
  try simp only [Act.put, List.setIfInBounds_toArray, List.set_cons_succ, List.set_cons_zero]
  refine takeL (.bool true) rfl (by go_simp) ?_
  try simp only [Act.put, List.setIfInBounds_toArray, List.set_cons_succ, List.set_cons_zero]
  refine wpList_nil ?_
  go_upto_region 2 with fail
  refine wp_region_lit ?_
  refine build_g (build27 _) rfl ?_
  try simp only [Act.put, List.setIfInBounds_toArray, List.set_cons_succ, List.set_cons_zero]
  refine store_all (cs := Rg.none.cells.toArray) F2.out (by simp only [List.size_toArray, HWN.out.cells, HWN.out.cells]) (by rw [List.size_toArray, HWN.out.cells]; exact info27) (by simpa using Rg.cell_one Rg.none) rfl rfl rfl ?_
  intro w3 hD hO hlD
  try simp only [Act.put, List.setIfInBounds_toArray, List.set_cons_succ, List.set_cons_zero]
  have HBLn := Lib.hid (HBL.out.trans (hO.below HBL.out.size fun k hk => by rw [hk]; exact GEg0.out))
  have F2n : Hid (Blk w3 w.heap.size (Rg.none.cells)) := Lib.hid (by first | exact hD | simpa using hD)
  clear HBL F2
  have HBL := HBLn
  have F2 := F2n
  clear HBLn F2n
  clear hD hO hlD
  refine takeL (.int .i64 1) rfl (by go_simp) ?_
  try simp only [Act.put, List.setIfInBounds_toArray, List.set_cons_succ, List.set_cons_zero]
  refine wpList_nil ?_
  go_wp2_with fail
  exact bodyPost_ret (v := .tuple #[.agg Rg.none.cells.toArray, .int .i64 1]) (results_cell_tmp rfl _ _ w.heap.size 0 _ _ _ rfl rfl Tryd.underlying27 rfl (by rw [List.size_toArray, HWN.out.cells]; exact info27) (Blk.all F2.out rfl)) rfl ⟨rfl, HBL.out⟩

set_option maxRecDepth 100000 in
set_option maxHeartbeats 4000000 in
theorem newest_nn (w : World) (hev : ErrVar w) {W0 : World} {b : Nat} {F : Nat → Prop} {d : De.D} (h : De.Dv W0 w b F d) (h0 : (∀ w', ErrVar w' → De.Dv W0 w' b F d → Calls Tryd.prog 8 #[.pointer (some ⟨b, 0, none⟩), .int .i64 0] w' (fun e w2 => Tells none e w' w2))) (h1 : (∀ w', ErrVar w' → De.Dv W0 w' b F d → Calls Tryd.prog 8 #[.pointer (some ⟨b, 0, none⟩), .int .i64 1] w' (fun e w2 => Tells none e w' w2))) : Calls Tryd.prog 5 #[.pointer (some ⟨b, 0, none⟩)] w fun e w' => e = .returned (.tuple #[.agg Rg.none.cells.toArray, .int .i64 13]) ∧ Below w.heap.size w w' := by
  have HWN := Lib.hid none_wf
  have HBL : Hid (Below w.heap.size w w) := Lib.hid (Below.refl _ _)
  have HEV := Lib.hid hev
  have HP := Lib.hid hev.lt
  have HD := Lib.hid h
  have HR0 := Lib.hid h0
  have HR1 := Lib.hid h1
  clear hev h h0 h1
  go_enter Tryd.func5, Tryd.ntmps5
  go_upto_region 0 with fail
  refine wp_region_lit ?_
  refine alloc_g zero27 rfl ?_
  intro w1 hA hb hl
  try simp only [Act.put, List.setIfInBounds_toArray, List.set_cons_succ, List.set_cons_zero]
  have NFg0 := Lib.hid (fun hk => Nat.lt_irrefl _ (HD.out.lt w.heap.size hk).2)
  have GDg0 := Lib.hid HD.out.2.size
  have HBLn := Lib.hid (HBL.out.trans (hb.mono HBL.out.size))
  have HDn := Lib.hid (HD.out.below hb)
  have HEVn := Lib.hid (HEV.out.below (Nat.le_refl _) hb)
  have F2 : Hid (Blk w1 w.heap.size (Rg.none.cells)) := Lib.hid (by first | exact hA | simpa using hA)
  have GEg0 := Lib.hid HBL.out.size
  clear HBL HD HEV
  have HBL := HBLn
  have HD := HDn
  have HEV := HEVn
  clear HBLn HDn HEVn
  clear hA hb hl
  refine takeL (.int .i64 0) rfl (by go_simp) ?_
  try simp only [Act.put, List.setIfInBounds_toArray, List.set_cons_succ, List.set_cons_zero]
  refine wpList_nil ?_
  go_upto_region 1 with fail
  refine wp_region_lit ?_
  refine takeL (.pointer (some ⟨b, 0, none⟩)) rfl (by go_simp) ?_
  try simp only [Act.put, List.setIfInBounds_toArray, List.set_cons_succ, List.set_cons_zero]
  refine takeL (.bool false) rfl (by go_simp) ?_
  try simp only [Act.put, List.setIfInBounds_toArray, List.set_cons_succ, List.set_cons_zero]
  refine wpList_nil ?_
  go_upto_region 3 with fail
  refine wp_region_lit ?_
  refine build_g (build27 _) rfl ?_
  try simp only [Act.put, List.setIfInBounds_toArray, List.set_cons_succ, List.set_cons_zero]
  refine alloc_g zero27 rfl ?_
  intro w3 hA hb hl
  try simp only [Act.put, List.setIfInBounds_toArray, List.set_cons_succ, List.set_cons_zero]
  have NFg4 := Lib.hid (fun hk => Nat.lt_irrefl _ (HD.out.lt w1.heap.size hk).2)
  have GDg4 := Lib.hid HD.out.2.size
  have HBLn := Lib.hid (HBL.out.trans (hb.mono HBL.out.size))
  have F2n := Lib.hid (F2.out.below hb F2.out.lt)
  have NEg0_g4 := Lib.hid (Nat.ne_of_lt F2.out.lt)
  have HDn := Lib.hid (HD.out.below hb)
  have HEVn := Lib.hid (HEV.out.below (Nat.le_refl _) hb)
  have F5 : Hid (Blk w3 w1.heap.size (Rg.none.cells)) := Lib.hid (by first | exact hA | simpa using hA)
  have GEg4 := Lib.hid HBL.out.size
  clear HBL F2 HD HEV
  have HBL := HBLn
  have F2 := F2n
  have HD := HDn
  have HEV := HEVn
  clear HBLn F2n HDn HEVn
  clear hA hb hl
  generalize w1.heap.size = g4 at *
  refine store_all (cs := Rg.none.cells.toArray) F5.out (by simp only [List.size_toArray, HWN.out.cells, HWN.out.cells]) (by rw [List.size_toArray, HWN.out.cells]; exact info27) (by simpa using Rg.cell_one Rg.none) rfl rfl rfl ?_
  intro w6 hD hO hlD
  try simp only [Act.put, List.setIfInBounds_toArray, List.set_cons_succ, List.set_cons_zero]
  have HBLn := Lib.hid (HBL.out.trans (hO.below HBL.out.size fun k hk => by rw [hk]; exact GEg4.out))
  have F2n := Lib.hid (F2.out.only hO (NEg0_g4.out))
  have F5n : Hid (Blk w6 g4 (Rg.none.cells)) := Lib.hid (by first | exact hD | simpa using hD)
  have HDn := Lib.hid (HD.out.go1 hO GDg4.out NFg4.out)
  have HEVn := Lib.hid (HEV.out.keep hO GEg4.out HP.out)
  clear HBL F2 F5 HD HEV
  have HBL := HBLn
  have F2 := F2n
  have F5 := F5n
  have HD := HDn
  have HEV := HEVn
  clear HBLn F2n F5n HDn HEVn
  clear hD hO hlD
  refine takeL (.int .i64 13) rfl (by go_simp) ?_
  try simp only [Act.put, List.setIfInBounds_toArray, List.set_cons_succ, List.set_cons_zero]
  refine wpList_nil ?_
  go_upto_region 4 with fail
  refine wp_region_lit ?_
  refine takeL (.int .i64 0) rfl (by go_simp) ?_
  try simp only [Act.put, List.setIfInBounds_toArray, List.set_cons_succ, List.set_cons_zero]
  refine wpList_nil ?_
  go_wp2_with fail
  go_loopg [13, 5] 2 (fun n i s wr => ∃ k : Nat, 2 - k ≤ n ∧ k ≤ 2 ∧ i = .int .i64 k ∧ s = .int .i64 (at3 13 13 13 k) ∧ Blk wr w.heap.size Rg.none.cells ∧ Blk wr g4 (at3 Rg.none Rg.none Rg.none k).cells ∧ Below w.heap.size w wr ∧ De.Dv W0 wr b F d ∧ ErrVar wr)
  case atStart => exact ⟨0, by omega, by omega, rfl, rfl, F2.out, F5.out, HBL.out, HD.out, HEV.out⟩
  case round =>
    obtain ⟨k, hn, hk, rfl, hs, h0, h1, h2, h3, h4⟩ := hrel
    clear F2 F5 HBL HD HEV
    have F2 := Lib.hid h0
    have F5k := Lib.hid h1
    have HBL := Lib.hid h2
    have HD := Lib.hid h3
    have HEV := Lib.hid h4
    have HS := Lib.hid hs
    clear h0 h1 h2 h3 h4 hs
    rcases (show k = 0 ∨ k = 1 ∨ k = 2 by omega) with rfl | rfl | rfl
    · have F5 : Hid (Blk wr g4 Rg.none.cells) := Lib.hid F5k.out
      have hs : _ = Value.int .i64 13 := HS.out
      clear F5k HS
      subst hs
      go_upto_region 7 with fail
      refine wp_region_lit ?_
      refine takeL (.pointer (some ⟨b, 0, none⟩)) rfl (by go_simp) ?_
      try simp only [Act.put, List.setIfInBounds_toArray, List.set_cons_succ, List.set_cons_zero]
      refine takeL (.int .i64 0) rfl (by go_simp) ?_
      try simp only [Act.put, List.setIfInBounds_toArray, List.set_cons_succ, List.set_cons_zero]
      refine wpList_op rfl fun K hK => ?_
      go_simp
      refine (HR0.out _ HEV.out HD.out).mono ?_
      rintro e w7 ⟨TE, dE, tE, tsE, rfl, hc, hb⟩
      have HBLn := Lib.hid (HBL.out.trans (hb.mono HBL.out.size))
      have F2n := Lib.hid (F2.out.below hb F2.out.lt)
      have F5n := Lib.hid (F5.out.below hb F5.out.lt)
      have HDn := Lib.hid (HD.out.below hb)
      have HEVn := Lib.hid (HEV.out.below (Nat.le_refl _) hb)
      clear HBL F2 F5 HD HEV
      have HBL := HBLn
      have F2 := F2n
      have F5 := F5n
      have HD := HDn
      have HEV := HEVn
      clear HBLn F2n F5n HDn HEVn
      have HCH := Lib.hid hc
      clear hc hb
      refine hK _ _ ?_
      clear hK K
      try simp only [Act.put, List.setIfInBounds_toArray, List.set_cons_succ, List.set_cons_zero]
      refine takeL (.tuple #[.agg Rg.none.cells.toArray, .iface TE dE]) rfl (by go_simp) ?_
      try simp only [Act.put, List.setIfInBounds_toArray, List.set_cons_succ, List.set_cons_zero]
      refine takeL (.agg Rg.none.cells.toArray) rfl (by go_simp) ?_
      try simp only [Act.put, List.setIfInBounds_toArray, List.set_cons_succ, List.set_cons_zero]
      refine takeL (.iface TE dE) rfl (by go_simp) ?_
      try simp only [Act.put, List.setIfInBounds_toArray, List.set_cons_succ, List.set_cons_zero]
      refine alloc_g zero27 rfl ?_
      intro w8 hA hb hl
      try simp only [Act.put, List.setIfInBounds_toArray, List.set_cons_succ, List.set_cons_zero]
      have NFg9 := Lib.hid (fun hk => Nat.lt_irrefl _ (HD.out.lt w7.heap.size hk).2)
      have GDg9 := Lib.hid HD.out.2.size
      have HBLn := Lib.hid (HBL.out.trans (hb.mono HBL.out.size))
      have F2n := Lib.hid (F2.out.below hb F2.out.lt)
      have NEg0_g9 := Lib.hid (Nat.ne_of_lt F2.out.lt)
      have F5n := Lib.hid (F5.out.below hb F5.out.lt)
      have NEg4_g9 := Lib.hid (Nat.ne_of_lt F5.out.lt)
      have HDn := Lib.hid (HD.out.below hb)
      have HEVn := Lib.hid (HEV.out.below (Nat.le_refl _) hb)
      have HCHn := Lib.hid (HCH.out.below (Nat.le_refl _) hb)
      have F10 : Hid (Blk w8 w7.heap.size (Rg.none.cells)) := Lib.hid (by first | exact hA | simpa using hA)
      have GEg9 := Lib.hid HBL.out.size
      clear HBL F2 F5 HD HEV HCH
      have HBL := HBLn
      have F2 := F2n
      have F5 := F5n
      have HD := HDn
      have HEV := HEVn
      have HCH := HCHn
      clear HBLn F2n F5n HDn HEVn HCHn
      clear hA hb hl
      generalize w7.heap.size = g9 at *
      refine store_all (cs := Rg.none.cells.toArray) F10.out (by simp only [List.size_toArray, HWN.out.cells, HWN.out.cells]) (by rw [List.size_toArray, HWN.out.cells]; exact info27) (by simpa using Rg.cell_one Rg.none) rfl rfl rfl ?_
      intro w11 hD hO hlD
      try simp only [Act.put, List.setIfInBounds_toArray, List.set_cons_succ, List.set_cons_zero]
      have HBLn := Lib.hid (HBL.out.trans (hO.below HBL.out.size fun k hk => by rw [hk]; exact GEg9.out))
      have F2n := Lib.hid (F2.out.only hO (NEg0_g9.out))
      have F5n := Lib.hid (F5.out.only hO (NEg4_g9.out))
      have F10n : Hid (Blk w11 g9 (Rg.none.cells)) := Lib.hid (by first | exact hD | simpa using hD)
      have HDn := Lib.hid (HD.out.go1 hO GDg9.out NFg9.out)
      have HEVn := Lib.hid (HEV.out.keep hO GEg9.out HP.out)
      have HCHn := Lib.hid (HCH.out.keep hO (Blk.noStr F10.out (Rg.noStr _)))
      clear HBL F2 F5 F10 HD HEV HCH
      have HBL := HBLn
      have F2 := F2n
      have F5 := F5n
      have F10 := F10n
      have HD := HDn
      have HEV := HEVn
      have HCH := HCHn
      clear HBLn F2n F5n F10n HDn HEVn HCHn
      clear hD hO hlD
      refine takeL (.iface TE dE) rfl (by go_simp) ?_
      try simp only [Act.put, List.setIfInBounds_toArray, List.set_cons_succ, List.set_cons_zero]
      refine wpList_nil ?_
      go_upto_region 8 with fail
      refine wp_region_lit ?_
      refine takeL (.iface TE dE) rfl (by go_simp) ?_
      try simp only [Act.put, List.setIfInBounds_toArray, List.set_cons_succ, List.set_cons_zero]
      refine wpList_op rfl fun K hK => ?_
      go_simp
      refine (is_num 13 13 true rfl _ _ _ _ HCH.out).mono ?_
      rintro e w12 ⟨rfl, hb⟩
      have HBLn := Lib.hid (HBL.out.trans (hb.mono HBL.out.size))
      have F2n := Lib.hid (F2.out.below hb F2.out.lt)
      have F5n := Lib.hid (F5.out.below hb F5.out.lt)
      have F10n := Lib.hid (F10.out.below hb F10.out.lt)
      have HDn := Lib.hid (HD.out.below hb)
      have HEVn := Lib.hid (HEV.out.below (Nat.le_refl _) hb)
      have HCHn := Lib.hid (HCH.out.below (Nat.le_refl _) hb)
      clear HBL F2 F5 F10 HD HEV HCH
      have HBL := HBLn
      have F2 := F2n
      have F5 := F5n
      have F10 := F10n
      have HD := HDn
      have HEV := HEVn
      have HCH := HCHn
      clear HBLn F2n F5n F10n HDn HEVn HCHn
      clear hb
      refine hK _ _ ?_
      clear hK K
      try simp only [Act.put, List.setIfInBounds_toArray, List.set_cons_succ, List.set_cons_zero]
      refine wpList_nil ?_
      go_wp2_with fail
      go_roundg (2 - (0 + 1))
      case measure => omega
      case rel => exact ⟨1, by omega, by omega, by go_num, rfl, F2.out, F5.out, HBL.out, HD.out, HEV.out⟩
    · have F5 : Hid (Blk wr g4 Rg.none.cells) := Lib.hid F5k.out
      have hs : _ = Value.int .i64 13 := HS.out
      clear F5k HS
      subst hs
      go_upto_region 7 with fail
      refine wp_region_lit ?_
      refine takeL (.pointer (some ⟨b, 0, none⟩)) rfl (by go_simp) ?_
      try simp only [Act.put, List.setIfInBounds_toArray, List.set_cons_succ, List.set_cons_zero]
      refine takeL (.int .i64 1) rfl (by go_simp) ?_
      try simp only [Act.put, List.setIfInBounds_toArray, List.set_cons_succ, List.set_cons_zero]
      refine wpList_op rfl fun K hK => ?_
      go_simp
      refine (HR1.out _ HEV.out HD.out).mono ?_
      rintro e w7 ⟨TE, dE, tE, tsE, rfl, hc, hb⟩
      have HBLn := Lib.hid (HBL.out.trans (hb.mono HBL.out.size))
      have F2n := Lib.hid (F2.out.below hb F2.out.lt)
      have F5n := Lib.hid (F5.out.below hb F5.out.lt)
      have HDn := Lib.hid (HD.out.below hb)
      have HEVn := Lib.hid (HEV.out.below (Nat.le_refl _) hb)
      clear HBL F2 F5 HD HEV
      have HBL := HBLn
      have F2 := F2n
      have F5 := F5n
      have HD := HDn
      have HEV := HEVn
      clear HBLn F2n F5n HDn HEVn
      have HCH := Lib.hid hc
      clear hc hb
      refine hK _ _ ?_
      clear hK K
      try simp only [Act.put, List.setIfInBounds_toArray, List.set_cons_succ, List.set_cons_zero]
      refine takeL (.tuple #[.agg Rg.none.cells.toArray, .iface TE dE]) rfl (by go_simp) ?_
      try simp only [Act.put, List.setIfInBounds_toArray, List.set_cons_succ, List.set_cons_zero]
      refine takeL (.agg Rg.none.cells.toArray) rfl (by go_simp) ?_
      try simp only [Act.put, List.setIfInBounds_toArray, List.set_cons_succ, List.set_cons_zero]
      refine takeL (.iface TE dE) rfl (by go_simp) ?_
      try simp only [Act.put, List.setIfInBounds_toArray, List.set_cons_succ, List.set_cons_zero]
      refine alloc_g zero27 rfl ?_
      intro w8 hA hb hl
      try simp only [Act.put, List.setIfInBounds_toArray, List.set_cons_succ, List.set_cons_zero]
      have NFg9 := Lib.hid (fun hk => Nat.lt_irrefl _ (HD.out.lt w7.heap.size hk).2)
      have GDg9 := Lib.hid HD.out.2.size
      have HBLn := Lib.hid (HBL.out.trans (hb.mono HBL.out.size))
      have F2n := Lib.hid (F2.out.below hb F2.out.lt)
      have NEg0_g9 := Lib.hid (Nat.ne_of_lt F2.out.lt)
      have F5n := Lib.hid (F5.out.below hb F5.out.lt)
      have NEg4_g9 := Lib.hid (Nat.ne_of_lt F5.out.lt)
      have HDn := Lib.hid (HD.out.below hb)
      have HEVn := Lib.hid (HEV.out.below (Nat.le_refl _) hb)
      have HCHn := Lib.hid (HCH.out.below (Nat.le_refl _) hb)
      have F10 : Hid (Blk w8 w7.heap.size (Rg.none.cells)) := Lib.hid (by first | exact hA | simpa using hA)
      have GEg9 := Lib.hid HBL.out.size
      clear HBL F2 F5 HD HEV HCH
      have HBL := HBLn
      have F2 := F2n
      have F5 := F5n
      have HD := HDn
      have HEV := HEVn
      have HCH := HCHn
      clear HBLn F2n F5n HDn HEVn HCHn
      clear hA hb hl
      generalize w7.heap.size = g9 at *
      refine store_all (cs := Rg.none.cells.toArray) F10.out (by simp only [List.size_toArray, HWN.out.cells, HWN.out.cells]) (by rw [List.size_toArray, HWN.out.cells]; exact info27) (by simpa using Rg.cell_one Rg.none) rfl rfl rfl ?_
      intro w11 hD hO hlD
      try simp only [Act.put, List.setIfInBounds_toArray, List.set_cons_succ, List.set_cons_zero]
      have HBLn := Lib.hid (HBL.out.trans (hO.below HBL.out.size fun k hk => by rw [hk]; exact GEg9.out))
      have F2n := Lib.hid (F2.out.only hO (NEg0_g9.out))
      have F5n := Lib.hid (F5.out.only hO (NEg4_g9.out))
      have F10n : Hid (Blk w11 g9 (Rg.none.cells)) := Lib.hid (by first | exact hD | simpa using hD)
      have HDn := Lib.hid (HD.out.go1 hO GDg9.out NFg9.out)
      have HEVn := Lib.hid (HEV.out.keep hO GEg9.out HP.out)
      have HCHn := Lib.hid (HCH.out.keep hO (Blk.noStr F10.out (Rg.noStr _)))
      clear HBL F2 F5 F10 HD HEV HCH
      have HBL := HBLn
      have F2 := F2n
      have F5 := F5n
      have F10 := F10n
      have HD := HDn
      have HEV := HEVn
      have HCH := HCHn
      clear HBLn F2n F5n F10n HDn HEVn HCHn
      clear hD hO hlD
      refine takeL (.iface TE dE) rfl (by go_simp) ?_
      try simp only [Act.put, List.setIfInBounds_toArray, List.set_cons_succ, List.set_cons_zero]
      refine wpList_nil ?_
      go_upto_region 8 with fail
      refine wp_region_lit ?_
      refine takeL (.iface TE dE) rfl (by go_simp) ?_
      try simp only [Act.put, List.setIfInBounds_toArray, List.set_cons_succ, List.set_cons_zero]
      refine wpList_op rfl fun K hK => ?_
      go_simp
      refine (is_num 13 13 true rfl _ _ _ _ HCH.out).mono ?_
      rintro e w12 ⟨rfl, hb⟩
      have HBLn := Lib.hid (HBL.out.trans (hb.mono HBL.out.size))
      have F2n := Lib.hid (F2.out.below hb F2.out.lt)
      have F5n := Lib.hid (F5.out.below hb F5.out.lt)
      have F10n := Lib.hid (F10.out.below hb F10.out.lt)
      have HDn := Lib.hid (HD.out.below hb)
      have HEVn := Lib.hid (HEV.out.below (Nat.le_refl _) hb)
      have HCHn := Lib.hid (HCH.out.below (Nat.le_refl _) hb)
      clear HBL F2 F5 F10 HD HEV HCH
      have HBL := HBLn
      have F2 := F2n
      have F5 := F5n
      have F10 := F10n
      have HD := HDn
      have HEV := HEVn
      have HCH := HCHn
      clear HBLn F2n F5n F10n HDn HEVn HCHn
      clear hb
      refine hK _ _ ?_
      clear hK K
      try simp only [Act.put, List.setIfInBounds_toArray, List.set_cons_succ, List.set_cons_zero]
      refine wpList_nil ?_
      go_wp2_with fail
      go_roundg (2 - (1 + 1))
      case measure => omega
      case rel => exact ⟨2, by omega, by omega, by go_num, rfl, F2.out, F5.out, HBL.out, HD.out, HEV.out⟩
    · have F5 : Hid (Blk wr g4 Rg.none.cells) := Lib.hid F5k.out
      have hs : _ = Value.int .i64 13 := HS.out
      clear F5k HS
      subst hs
      go_upto_region 12 with fail
      refine wp_region_lit ?_
      refine load27 (cs := Rg.none.cells.toArray) (Blk.all F5.out rfl) (by rw [List.size_toArray]; exact HWN.out.cells) rfl rfl ?_
      try simp only [Act.put, List.setIfInBounds_toArray, List.set_cons_succ, List.set_cons_zero]
      refine takeL (.int .i64 13) rfl (by go_simp) ?_
      try simp only [Act.put, List.setIfInBounds_toArray, List.set_cons_succ, List.set_cons_zero]
      refine store_all (cs := Rg.none.cells.toArray) F2.out (by simp only [List.size_toArray, HWN.out.cells, HWN.out.cells]) (by rw [List.size_toArray, HWN.out.cells]; exact info27) (by simpa using Rg.cell_one Rg.none) rfl rfl rfl ?_
      intro w7 hD hO hlD
      try simp only [Act.put, List.setIfInBounds_toArray, List.set_cons_succ, List.set_cons_zero]
      have HBLn := Lib.hid (HBL.out.trans (hO.below HBL.out.size fun k hk => by rw [hk]; exact GEg0.out))
      have F2n : Hid (Blk w7 w.heap.size (Rg.none.cells)) := Lib.hid (by first | exact hD | simpa using hD)
      have F5n := Lib.hid (F5.out.only hO (NEg0_g4.out.symm))
      have HDn := Lib.hid (HD.out.go1 hO GDg0.out NFg0.out)
      have HEVn := Lib.hid (HEV.out.keep hO GEg0.out HP.out)
      clear HBL F2 F5 HD HEV
      have HBL := HBLn
      have F2 := F2n
      have F5 := F5n
      have HD := HDn
      have HEV := HEVn
      clear HBLn F2n F5n HDn HEVn
      clear hD hO hlD
      refine takeL (.int .i64 13) rfl (by go_simp) ?_
      try simp only [Act.put, List.setIfInBounds_toArray, List.set_cons_succ, List.set_cons_zero]
      refine wpList_nil ?_
      go_wp2_with fail
      exact bodyPost_ret (v := .tuple #[.agg Rg.none.cells.toArray, .int .i64 13]) (results_cell_tmp rfl _ _ w.heap.size 0 _ _ _ rfl rfl Tryd.underlying27 rfl (by rw [List.size_toArray, HWN.out.cells]; exact info27) (Blk.all F2.out rfl)) rfl ⟨rfl, HBL.out⟩

set_option maxRecDepth 100000 in
set_option maxHeartbeats 4000000 in
theorem newest_ns (q : Rg) (hq : q.Wf) (w : World) (hev : ErrVar w) {W0 : World} {b : Nat} {F : Nat → Prop} {d : De.D} (h : De.Dv W0 w b F d) (h0 : (∀ w', ErrVar w' → De.Dv W0 w' b F d → Calls Tryd.prog 8 #[.pointer (some ⟨b, 0, none⟩), .int .i64 0] w' (fun e w2 => Tells none e w' w2))) (h1 : (∀ w', ErrVar w' → De.Dv W0 w' b F d → Calls Tryd.prog 8 #[.pointer (some ⟨b, 0, none⟩), .int .i64 1] w' (fun e w2 => Tells (some q) e w' w2))) : Calls Tryd.prog 5 #[.pointer (some ⟨b, 0, none⟩)] w fun e w' => e = .returned (.tuple #[.agg q.cells.toArray, .int .i64 0]) ∧ Below w.heap.size w w' := by
  have HWN := Lib.hid none_wf
  have HBL : Hid (Below w.heap.size w w) := Lib.hid (Below.refl _ _)
  have HWQ := Lib.hid hq
  have HEV := Lib.hid hev
  have HP := Lib.hid hev.lt
  have HD := Lib.hid h
  have HR0 := Lib.hid h0
  have HR1 := Lib.hid h1
  clear hev h h0 h1 hq
  go_enter Tryd.func5, Tryd.ntmps5
  go_upto_region 0 with fail
  refine wp_region_lit ?_
  refine alloc_g zero27 rfl ?_
  intro w1 hA hb hl
  try simp only [Act.put, List.setIfInBounds_toArray, List.set_cons_succ, List.set_cons_zero]
  have NFg0 := Lib.hid (fun hk => Nat.lt_irrefl _ (HD.out.lt w.heap.size hk).2)
  have GDg0 := Lib.hid HD.out.2.size
  have HBLn := Lib.hid (HBL.out.trans (hb.mono HBL.out.size))
  have HDn := Lib.hid (HD.out.below hb)
  have HEVn := Lib.hid (HEV.out.below (Nat.le_refl _) hb)
  have F2 : Hid (Blk w1 w.heap.size (Rg.none.cells)) := Lib.hid (by first | exact hA | simpa using hA)
  have GEg0 := Lib.hid HBL.out.size
  clear HBL HD HEV
  have HBL := HBLn
  have HD := HDn
  have HEV := HEVn
  clear HBLn HDn HEVn
  clear hA hb hl
  refine takeL (.int .i64 0) rfl (by go_simp) ?_
  try simp only [Act.put, List.setIfInBounds_toArray, List.set_cons_succ, List.set_cons_zero]
  refine wpList_nil ?_
  go_upto_region 1 with fail
  refine wp_region_lit ?_
  refine takeL (.pointer (some ⟨b, 0, none⟩)) rfl (by go_simp) ?_
  try simp only [Act.put, List.setIfInBounds_toArray, List.set_cons_succ, List.set_cons_zero]
  refine takeL (.bool false) rfl (by go_simp) ?_
  try simp only [Act.put, List.setIfInBounds_toArray, List.set_cons_succ, List.set_cons_zero]
  refine wpList_nil ?_
  go_upto_region 3 with fail
  refine wp_region_lit ?_
  refine build_g (build27 _) rfl ?_
  try simp only [Act.put, List.setIfInBounds_toArray, List.set_cons_succ, List.set_cons_zero]
  refine alloc_g zero27 rfl ?_
  intro w3 hA hb hl
  try simp only [Act.put, List.setIfInBounds_toArray, List.set_cons_succ, List.set_cons_zero]
  have NFg4 := Lib.hid (fun hk => Nat.lt_irrefl _ (HD.out.lt w1.heap.size hk).2)
  have GDg4 := Lib.hid HD.out.2.size
  have HBLn := Lib.hid (HBL.out.trans (hb.mono HBL.out.size))
  have F2n := Lib.hid (F2.out.below hb F2.out.lt)
  have NEg0_g4 := Lib.hid (Nat.ne_of_lt F2.out.lt)
  have HDn := Lib.hid (HD.out.below hb)
  have HEVn := Lib.hid (HEV.out.below (Nat.le_refl _) hb)
  have F5 : Hid (Blk w3 w1.heap.size (Rg.none.cells)) := Lib.hid (by first | exact hA | simpa using hA)
  have GEg4 := Lib.hid HBL.out.size
  clear HBL F2 HD HEV
  have HBL := HBLn
  have F2 := F2n
  have HD := HDn
  have HEV := HEVn
  clear HBLn F2n HDn HEVn
  clear hA hb hl
  generalize w1.heap.size = g4 at *
  refine store_all (cs := Rg.none.cells.toArray) F5.out (by simp only [List.size_toArray, HWN.out.cells, HWN.out.cells]) (by rw [List.size_toArray, HWN.out.cells]; exact info27) (by simpa using Rg.cell_one Rg.none) rfl rfl rfl ?_
  intro w6 hD hO hlD
  try simp only [Act.put, List.setIfInBounds_toArray, List.set_cons_succ, List.set_cons_zero]
  have HBLn := Lib.hid (HBL.out.trans (hO.below HBL.out.size fun k hk => by rw [hk]; exact GEg4.out))
  have F2n := Lib.hid (F2.out.only hO (NEg0_g4.out))
  have F5n : Hid (Blk w6 g4 (Rg.none.cells)) := Lib.hid (by first | exact hD | simpa using hD)
  have HDn := Lib.hid (HD.out.go1 hO GDg4.out NFg4.out)
  have HEVn := Lib.hid (HEV.out.keep hO GEg4.out HP.out)
  clear HBL F2 F5 HD HEV
  have HBL := HBLn
  have F2 := F2n
  have F5 := F5n
  have HD := HDn
  have HEV := HEVn
  clear HBLn F2n F5n HDn HEVn
  clear hD hO hlD
  refine takeL (.int .i64 13) rfl (by go_simp) ?_
  try simp only [Act.put, List.setIfInBounds_toArray, List.set_cons_succ, List.set_cons_zero]
  refine wpList_nil ?_
  go_upto_region 4 with fail
  refine wp_region_lit ?_
  refine takeL (.int .i64 0) rfl (by go_simp) ?_
  try simp only [Act.put, List.setIfInBounds_toArray, List.set_cons_succ, List.set_cons_zero]
  refine wpList_nil ?_
  go_wp2_with fail
  go_loopg [13, 5] 2 (fun n i s wr => ∃ k : Nat, 2 - k ≤ n ∧ k ≤ 2 ∧ i = .int .i64 k ∧ s = .int .i64 (at3 13 13 0 k) ∧ Blk wr w.heap.size Rg.none.cells ∧ Blk wr g4 (at3 Rg.none Rg.none q k).cells ∧ Below w.heap.size w wr ∧ De.Dv W0 wr b F d ∧ ErrVar wr)
  case atStart => exact ⟨0, by omega, by omega, rfl, rfl, F2.out, F5.out, HBL.out, HD.out, HEV.out⟩
  case round =>
    obtain ⟨k, hn, hk, rfl, hs, h0, h1, h2, h3, h4⟩ := hrel
    clear F2 F5 HBL HD HEV
    have F2 := Lib.hid h0
    have F5k := Lib.hid h1
    have HBL := Lib.hid h2
    have HD := Lib.hid h3
    have HEV := Lib.hid h4
    have HS := Lib.hid hs
    clear h0 h1 h2 h3 h4 hs
    rcases (show k = 0 ∨ k = 1 ∨ k = 2 by omega) with rfl | rfl | rfl
    · have F5 : Hid (Blk wr g4 Rg.none.cells) := Lib.hid F5k.out
      have hs : _ = Value.int .i64 13 := HS.out
      clear F5k HS
      subst hs
      go_upto_region 7 with fail
      refine wp_region_lit ?_
      refine takeL (.pointer (some ⟨b, 0, none⟩)) rfl (by go_simp) ?_
      try simp only [Act.put, List.setIfInBounds_toArray, List.set_cons_succ, List.set_cons_zero]
      refine takeL (.int .i64 0) rfl (by go_simp) ?_
      try simp only [Act.put, List.setIfInBounds_toArray, List.set_cons_succ, List.set_cons_zero]
      refine wpList_op rfl fun K hK => ?_
      go_simp
      refine (HR0.out _ HEV.out HD.out).mono ?_
      rintro e w7 ⟨TE, dE, tE, tsE, rfl, hc, hb⟩
      have HBLn := Lib.hid (HBL.out.trans (hb.mono HBL.out.size))
      have F2n := Lib.hid (F2.out.below hb F2.out.lt)
      have F5n := Lib.hid (F5.out.below hb F5.out.lt)
      have HDn := Lib.hid (HD.out.below hb)
      have HEVn := Lib.hid (HEV.out.below (Nat.le_refl _) hb)
      clear HBL F2 F5 HD HEV
      have HBL := HBLn
      have F2 := F2n
      have F5 := F5n
      have HD := HDn
      have HEV := HEVn
      clear HBLn F2n F5n HDn HEVn
      have HCH := Lib.hid hc
      clear hc hb
      refine hK _ _ ?_
      clear hK K
      try simp only [Act.put, List.setIfInBounds_toArray, List.set_cons_succ, List.set_cons_zero]
      refine takeL (.tuple #[.agg Rg.none.cells.toArray, .iface TE dE]) rfl (by go_simp) ?_
      try simp only [Act.put, List.setIfInBounds_toArray, List.set_cons_succ, List.set_cons_zero]
      refine takeL (.agg Rg.none.cells.toArray) rfl (by go_simp) ?_
      try simp only [Act.put, List.setIfInBounds_toArray, List.set_cons_succ, List.set_cons_zero]
      refine takeL (.iface TE dE) rfl (by go_simp) ?_
      try simp only [Act.put, List.setIfInBounds_toArray, List.set_cons_succ, List.set_cons_zero]
      refine alloc_g zero27 rfl ?_
      intro w8 hA hb hl
      try simp only [Act.put, List.setIfInBounds_toArray, List.set_cons_succ, List.set_cons_zero]
      have NFg9 := Lib.hid (fun hk => Nat.lt_irrefl _ (HD.out.lt w7.heap.size hk).2)
      have GDg9 := Lib.hid HD.out.2.size
      have HBLn := Lib.hid (HBL.out.trans (hb.mono HBL.out.size))
      have F2n := Lib.hid (F2.out.below hb F2.out.lt)
      have NEg0_g9 := Lib.hid (Nat.ne_of_lt F2.out.lt)
      have F5n := Lib.hid (F5.out.below hb F5.out.lt)
      have NEg4_g9 := Lib.hid (Nat.ne_of_lt F5.out.lt)
      have HDn := Lib.hid (HD.out.below hb)
      have HEVn := Lib.hid (HEV.out.below (Nat.le_refl _) hb)
      have HCHn := Lib.hid (HCH.out.below (Nat.le_refl _) hb)
      have F10 : Hid (Blk w8 w7.heap.size (Rg.none.cells)) := Lib.hid (by first | exact hA | simpa using hA)
      have GEg9 := Lib.hid HBL.out.size
      clear HBL F2 F5 HD HEV HCH
      have HBL := HBLn
      have F2 := F2n
      have F5 := F5n
      have HD := HDn
      have HEV := HEVn
      have HCH := HCHn
      clear HBLn F2n F5n HDn HEVn HCHn
      clear hA hb hl
      generalize w7.heap.size = g9 at *
      refine store_all (cs := Rg.none.cells.toArray) F10.out (by simp only [List.size_toArray, HWN.out.cells, HWN.out.cells]) (by rw [List.size_toArray, HWN.out.cells]; exact info27) (by simpa using Rg.cell_one Rg.none) rfl rfl rfl ?_
      intro w11 hD hO hlD
      try simp only [Act.put, List.setIfInBounds_toArray, List.set_cons_succ, List.set_cons_zero]
      have HBLn := Lib.hid (HBL.out.trans (hO.below HBL.out.size fun k hk => by rw [hk]; exact GEg9.out))
      have F2n := Lib.hid (F2.out.only hO (NEg0_g9.out))
      have F5n := Lib.hid (F5.out.only hO (NEg4_g9.out))
      have F10n : Hid (Blk w11 g9 (Rg.none.cells)) := Lib.hid (by first | exact hD | simpa using hD)
      have HDn := Lib.hid (HD.out.go1 hO GDg9.out NFg9.out)
      have HEVn := Lib.hid (HEV.out.keep hO GEg9.out HP.out)
      have HCHn := Lib.hid (HCH.out.keep hO (Blk.noStr F10.out (Rg.noStr _)))
      clear HBL F2 F5 F10 HD HEV HCH
      have HBL := HBLn
      have F2 := F2n
      have F5 := F5n
      have F10 := F10n
      have HD := HDn
      have HEV := HEVn
      have HCH := HCHn
      clear HBLn F2n F5n F10n HDn HEVn HCHn
      clear hD hO hlD
      refine takeL (.iface TE dE) rfl (by go_simp) ?_
      try simp only [Act.put, List.setIfInBounds_toArray, List.set_cons_succ, List.set_cons_zero]
      refine wpList_nil ?_
      go_upto_region 8 with fail
      refine wp_region_lit ?_
      refine takeL (.iface TE dE) rfl (by go_simp) ?_
      try simp only [Act.put, List.setIfInBounds_toArray, List.set_cons_succ, List.set_cons_zero]
      refine wpList_op rfl fun K hK => ?_
      go_simp
      refine (is_num 13 13 true rfl _ _ _ _ HCH.out).mono ?_
      rintro e w12 ⟨rfl, hb⟩
      have HBLn := Lib.hid (HBL.out.trans (hb.mono HBL.out.size))
      have F2n := Lib.hid (F2.out.below hb F2.out.lt)
      have F5n := Lib.hid (F5.out.below hb F5.out.lt)
      have F10n := Lib.hid (F10.out.below hb F10.out.lt)
      have HDn := Lib.hid (HD.out.below hb)
      have HEVn := Lib.hid (HEV.out.below (Nat.le_refl _) hb)
      have HCHn := Lib.hid (HCH.out.below (Nat.le_refl _) hb)
      clear HBL F2 F5 F10 HD HEV HCH
      have HBL := HBLn
      have F2 := F2n
      have F5 := F5n
      have F10 := F10n
      have HD := HDn
      have HEV := HEVn
      have HCH := HCHn
      clear HBLn F2n F5n F10n HDn HEVn HCHn
      clear hb
      refine hK _ _ ?_
      clear hK K
      try simp only [Act.put, List.setIfInBounds_toArray, List.set_cons_succ, List.set_cons_zero]
      refine wpList_nil ?_
      go_wp2_with fail
      go_roundg (2 - (0 + 1))
      case measure => omega
      case rel => exact ⟨1, by omega, by omega, by go_num, rfl, F2.out, F5.out, HBL.out, HD.out, HEV.out⟩
    · have F5 : Hid (Blk wr g4 Rg.none.cells) := Lib.hid F5k.out
      have hs : _ = Value.int .i64 13 := HS.out
      clear F5k HS
      subst hs
      go_upto_region 7 with fail
      refine wp_region_lit ?_
      refine takeL (.pointer (some ⟨b, 0, none⟩)) rfl (by go_simp) ?_
      try simp only [Act.put, List.setIfInBounds_toArray, List.set_cons_succ, List.set_cons_zero]
      refine takeL (.int .i64 1) rfl (by go_simp) ?_
      try simp only [Act.put, List.setIfInBounds_toArray, List.set_cons_succ, List.set_cons_zero]
      refine wpList_op rfl fun K hK => ?_
      go_simp
      refine (HR1.out _ HEV.out HD.out).mono ?_
      rintro e w7 ⟨rfl, hb⟩
      have HBLn := Lib.hid (HBL.out.trans (hb.mono HBL.out.size))
      have F2n := Lib.hid (F2.out.below hb F2.out.lt)
      have F5n := Lib.hid (F5.out.below hb F5.out.lt)
      have HDn := Lib.hid (HD.out.below hb)
      have HEVn := Lib.hid (HEV.out.below (Nat.le_refl _) hb)
      clear HBL F2 F5 HD HEV
      have HBL := HBLn
      have F2 := F2n
      have F5 := F5n
      have HD := HDn
      have HEV := HEVn
      clear HBLn F2n F5n HDn HEVn
      clear hb
      refine hK _ _ ?_
      clear hK K
      try simp only [Act.put, List.setIfInBounds_toArray, List.set_cons_succ, List.set_cons_zero]
      refine takeL (.tuple #[.agg q.cells.toArray, .nilIface]) rfl (by go_simp) ?_
      try simp only [Act.put, List.setIfInBounds_toArray, List.set_cons_succ, List.set_cons_zero]
      refine takeL (.agg q.cells.toArray) rfl (by go_simp) ?_
      try simp only [Act.put, List.setIfInBounds_toArray, List.set_cons_succ, List.set_cons_zero]
      refine takeL (.nilIface) rfl (by go_simp) ?_
      try simp only [Act.put, List.setIfInBounds_toArray, List.set_cons_succ, List.set_cons_zero]
      refine alloc_g zero27 rfl ?_
      intro w8 hA hb hl
      try simp only [Act.put, List.setIfInBounds_toArray, List.set_cons_succ, List.set_cons_zero]
      have NFg9 := Lib.hid (fun hk => Nat.lt_irrefl _ (HD.out.lt w7.heap.size hk).2)
      have GDg9 := Lib.hid HD.out.2.size
      have HBLn := Lib.hid (HBL.out.trans (hb.mono HBL.out.size))
      have F2n := Lib.hid (F2.out.below hb F2.out.lt)
      have NEg0_g9 := Lib.hid (Nat.ne_of_lt F2.out.lt)
      have F5n := Lib.hid (F5.out.below hb F5.out.lt)
      have NEg4_g9 := Lib.hid (Nat.ne_of_lt F5.out.lt)
      have HDn := Lib.hid (HD.out.below hb)
      have HEVn := Lib.hid (HEV.out.below (Nat.le_refl _) hb)
      have F10 : Hid (Blk w8 w7.heap.size (Rg.none.cells)) := Lib.hid (by first | exact hA | simpa using hA)
      have GEg9 := Lib.hid HBL.out.size
      clear HBL F2 F5 HD HEV
      have HBL := HBLn
      have F2 := F2n
      have F5 := F5n
      have HD := HDn
      have HEV := HEVn
      clear HBLn F2n F5n HDn HEVn
      clear hA hb hl
      generalize w7.heap.size = g9 at *
      refine store_all (cs := q.cells.toArray) F10.out (by simp only [List.size_toArray, HWN.out.cells, HWQ.out.cells]) (by rw [List.size_toArray, HWQ.out.cells]; exact info27) (by simpa using Rg.cell_one q) rfl rfl rfl ?_
      intro w11 hD hO hlD
      try simp only [Act.put, List.setIfInBounds_toArray, List.set_cons_succ, List.set_cons_zero]
      have HBLn := Lib.hid (HBL.out.trans (hO.below HBL.out.size fun k hk => by rw [hk]; exact GEg9.out))
      have F2n := Lib.hid (F2.out.only hO (NEg0_g9.out))
      have F5n := Lib.hid (F5.out.only hO (NEg4_g9.out))
      have F10n : Hid (Blk w11 g9 (q.cells)) := Lib.hid (by first | exact hD | simpa using hD)
      have HDn := Lib.hid (HD.out.go1 hO GDg9.out NFg9.out)
      have HEVn := Lib.hid (HEV.out.keep hO GEg9.out HP.out)
      clear HBL F2 F5 F10 HD HEV
      have HBL := HBLn
      have F2 := F2n
      have F5 := F5n
      have F10 := F10n
      have HD := HDn
      have HEV := HEVn
      clear HBLn F2n F5n F10n HDn HEVn
      clear hD hO hlD
      refine takeL (.nilIface) rfl (by go_simp) ?_
      try simp only [Act.put, List.setIfInBounds_toArray, List.set_cons_succ, List.set_cons_zero]
      refine wpList_nil ?_
      go_upto_region 8 with fail
      refine wp_region_lit ?_
      refine takeL (.nilIface) rfl (by go_simp) ?_
      try simp only [Act.put, List.setIfInBounds_toArray, List.set_cons_succ, List.set_cons_zero]
      refine wpList_op rfl fun K hK => ?_
      go_simp
      refine (is_nil 13 false rfl _).mono ?_
      rintro e w12 ⟨rfl, hb⟩
      have HBLn := Lib.hid (HBL.out.trans (hb.mono HBL.out.size))
      have F2n := Lib.hid (F2.out.below hb F2.out.lt)
      have F5n := Lib.hid (F5.out.below hb F5.out.lt)
      have F10n := Lib.hid (F10.out.below hb F10.out.lt)
      have HDn := Lib.hid (HD.out.below hb)
      have HEVn := Lib.hid (HEV.out.below (Nat.le_refl _) hb)
      clear HBL F2 F5 F10 HD HEV
      have HBL := HBLn
      have F2 := F2n
      have F5 := F5n
      have F10 := F10n
      have HD := HDn
      have HEV := HEVn
      clear HBLn F2n F5n F10n HDn HEVn
      clear hb
      refine hK _ _ ?_
      clear hK K
      try simp only [Act.put, List.setIfInBounds_toArray, List.set_cons_succ, List.set_cons_zero]
      refine wpList_nil ?_
      go_upto_region 9 with fail
      refine wp_region_lit ?_
      refine takeL (.int .i64 13) rfl (by go_simp) ?_
      try simp only [Act.put, List.setIfInBounds_toArray, List.set_cons_succ, List.set_cons_zero]
      refine takeL (.bool true) rfl (by go_simp) ?_
      try simp only [Act.put, List.setIfInBounds_toArray, List.set_cons_succ, List.set_cons_zero]
      refine takeL (.bool true) rfl (by go_simp) ?_
      try simp only [Act.put, List.setIfInBounds_toArray, List.set_cons_succ, List.set_cons_zero]
      refine passL rfl ?_
      try simp only [Act.put, List.setIfInBounds_toArray, List.set_cons_succ, List.set_cons_zero]
      refine passL rfl ?_
      try simp only [Act.put, List.setIfInBounds_toArray, List.set_cons_succ, List.set_cons_zero]
      refine passL rfl ?_
      try simp only [Act.put, List.setIfInBounds_toArray, List.set_cons_succ, List.set_cons_zero]
      refine passL rfl ?_
      try simp only [Act.put, List.setIfInBounds_toArray, List.set_cons_succ, List.set_cons_zero]
      refine passL rfl ?_
      try simp only [Act.put, List.setIfInBounds_toArray, List.set_cons_succ, List.set_cons_zero]
      refine takeL (.bool true) rfl (by go_simp) ?_
      try simp only [Act.put, List.setIfInBounds_toArray, List.set_cons_succ, List.set_cons_zero]
      refine wpList_nil ?_
      go_upto_region 10 with fail
      refine wp_region_lit ?_
      refine load27 (cs := q.cells.toArray) (Blk.all F10.out rfl) (by rw [List.size_toArray]; exact HWQ.out.cells) rfl rfl ?_
      try simp only [Act.put, List.setIfInBounds_toArray, List.set_cons_succ, List.set_cons_zero]
      refine store_all (cs := q.cells.toArray) F5.out (by simp only [List.size_toArray, HWN.out.cells, HWQ.out.cells]) (by rw [List.size_toArray, HWQ.out.cells]; exact info27) (by simpa using Rg.cell_one q) rfl rfl rfl ?_
      intro w13 hD hO hlD
      try simp only [Act.put, List.setIfInBounds_toArray, List.set_cons_succ, List.set_cons_zero]
      have HBLn := Lib.hid (HBL.out.trans (hO.below HBL.out.size fun k hk => by rw [hk]; exact GEg4.out))
      have F2n := Lib.hid (F2.out.only hO (NEg0_g4.out))
      have F5n : Hid (Blk w13 g4 (q.cells)) := Lib.hid (by first | exact hD | simpa using hD)
      have F10n := Lib.hid (F10.out.only hO (NEg4_g9.out.symm))
      have HDn := Lib.hid (HD.out.go1 hO GDg4.out NFg4.out)
      have HEVn := Lib.hid (HEV.out.keep hO GEg4.out HP.out)
      clear HBL F2 F5 F10 HD HEV
      have HBL := HBLn
      have F2 := F2n
      have F5 := F5n
      have F10 := F10n
      have HD := HDn
      have HEV := HEVn
      clear HBLn F2n F5n F10n HDn HEVn
      clear hD hO hlD
      refine takeL (.int .i64 0) rfl (by go_simp) ?_
      try simp only [Act.put, List.setIfInBounds_toArray, List.set_cons_succ, List.set_cons_zero]
      refine wpList_nil ?_
      go_wp2_with fail
      go_roundg (2 - (1 + 1))
      case measure => omega
      case rel => exact ⟨2, by omega, by omega, by go_num, rfl, F2.out, F5.out, HBL.out, HD.out, HEV.out⟩
    · have F5 : Hid (Blk wr g4 q.cells) := Lib.hid F5k.out
      have hs : _ = Value.int .i64 0 := HS.out
      clear F5k HS
      subst hs
      go_upto_region 12 with fail
      refine wp_region_lit ?_
      refine load27 (cs := q.cells.toArray) (Blk.all F5.out rfl) (by rw [List.size_toArray]; exact HWQ.out.cells) rfl rfl ?_
      try simp only [Act.put, List.setIfInBounds_toArray, List.set_cons_succ, List.set_cons_zero]
      refine takeL (.int .i64 0) rfl (by go_simp) ?_
      try simp only [Act.put, List.setIfInBounds_toArray, List.set_cons_succ, List.set_cons_zero]
      refine store_all (cs := q.cells.toArray) F2.out (by simp only [List.size_toArray, HWN.out.cells, HWQ.out.cells]) (by rw [List.size_toArray, HWQ.out.cells]; exact info27) (by simpa using Rg.cell_one q) rfl rfl rfl ?_
      intro w7 hD hO hlD
      try simp only [Act.put, List.setIfInBounds_toArray, List.set_cons_succ, List.set_cons_zero]
      have HBLn := Lib.hid (HBL.out.trans (hO.below HBL.out.size fun k hk => by rw [hk]; exact GEg0.out))
      have F2n : Hid (Blk w7 w.heap.size (q.cells)) := Lib.hid (by first | exact hD | simpa using hD)
      have F5n := Lib.hid (F5.out.only hO (NEg0_g4.out.symm))
      have HDn := Lib.hid (HD.out.go1 hO GDg0.out NFg0.out)
      have HEVn := Lib.hid (HEV.out.keep hO GEg0.out HP.out)
      clear HBL F2 F5 HD HEV
      have HBL := HBLn
      have F2 := F2n
      have F5 := F5n
      have HD := HDn
      have HEV := HEVn
      clear HBLn F2n F5n HDn HEVn
      clear hD hO hlD
      refine takeL (.int .i64 0) rfl (by go_simp) ?_
      try simp only [Act.put, List.setIfInBounds_toArray, List.set_cons_succ, List.set_cons_zero]
      refine wpList_nil ?_
      go_wp2_with fail
      exact bodyPost_ret (v := .tuple #[.agg q.cells.toArray, .int .i64 0]) (results_cell_tmp rfl _ _ w.heap.size 0 _ _ _ rfl rfl Tryd.underlying27 rfl (by rw [List.size_toArray, HWQ.out.cells]; exact info27) (Blk.all F2.out rfl)) rfl ⟨rfl, HBL.out⟩

set_option maxRecDepth 100000 in
set_option maxHeartbeats 4000000 in
theorem newest_sn (r : Rg) (hr : r.Wf) (w : World) (hev : ErrVar w) {W0 : World} {b : Nat} {F : Nat → Prop} {d : De.D} (h : De.Dv W0 w b F d) (h0 : (∀ w', ErrVar w' → De.Dv W0 w' b F d → Calls Tryd.prog 8 #[.pointer (some ⟨b, 0, none⟩), .int .i64 0] w' (fun e w2 => Tells (some r) e w' w2))) (h1 : (∀ w', ErrVar w' → De.Dv W0 w' b F d → Calls Tryd.prog 8 #[.pointer (some ⟨b, 0, none⟩), .int .i64 1] w' (fun e w2 => Tells none e w' w2))) : Calls Tryd.prog 5 #[.pointer (some ⟨b, 0, none⟩)] w fun e w' => e = .returned (.tuple #[.agg r.cells.toArray, .int .i64 0]) ∧ Below w.heap.size w w' := by
  have HWN := Lib.hid none_wf
  have HBL : Hid (Below w.heap.size w w) := Lib.hid (Below.refl _ _)
  have HWR := Lib.hid hr
  have HEV := Lib.hid hev
  have HP := Lib.hid hev.lt
  have HD := Lib.hid h
  have HR0 := Lib.hid h0
  have HR1 := Lib.hid h1
  clear hev h h0 h1 hr
  go_enter Tryd.func5, Tryd.ntmps5
  go_upto_region 0 with fail
  refine wp_region_lit ?_
  refine alloc_g zero27 rfl ?_
  intro w1 hA hb hl
  try simp only [Act.put, List.setIfInBounds_toArray, List.set_cons_succ, List.set_cons_zero]
  have NFg0 := Lib.hid (fun hk => Nat.lt_irrefl _ (HD.out.lt w.heap.size hk).2)
  have GDg0 := Lib.hid HD.out.2.size
  have HBLn := Lib.hid (HBL.out.trans (hb.mono HBL.out.size))
  have HDn := Lib.hid (HD.out.below hb)
  have HEVn := Lib.hid (HEV.out.below (Nat.le_refl _) hb)
  have F2 : Hid (Blk w1 w.heap.size (Rg.none.cells)) := Lib.hid (by first | exact hA | simpa using hA)
  have GEg0 := Lib.hid HBL.out.size
  clear HBL HD HEV
  have HBL := HBLn
  have HD := HDn
  have HEV := HEVn
  clear HBLn HDn HEVn
  clear hA hb hl
  refine takeL (.int .i64 0) rfl (by go_simp) ?_
  try simp only [Act.put, List.setIfInBounds_toArray, List.set_cons_succ, List.set_cons_zero]
  refine wpList_nil ?_
  go_upto_region 1 with fail
  refine wp_region_lit ?_
  refine takeL (.pointer (some ⟨b, 0, none⟩)) rfl (by go_simp) ?_
  try simp only [Act.put, List.setIfInBounds_toArray, List.set_cons_succ, List.set_cons_zero]
  refine takeL (.bool false) rfl (by go_simp) ?_
  try simp only [Act.put, List.setIfInBounds_toArray, List.set_cons_succ, List.set_cons_zero]
  refine wpList_nil ?_
  go_upto_region 3 with fail
  refine wp_region_lit ?_
  refine build_g (build27 _) rfl ?_
  try simp only [Act.put, List.setIfInBounds_toArray, List.set_cons_succ, List.set_cons_zero]
  refine alloc_g zero27 rfl ?_
  intro w3 hA hb hl
  try simp only [Act.put, List.setIfInBounds_toArray, List.set_cons_succ, List.set_cons_zero]
  have NFg4 := Lib.hid (fun hk => Nat.lt_irrefl _ (HD.out.lt w1.heap.size hk).2)
  have GDg4 := Lib.hid HD.out.2.size
  have HBLn := Lib.hid (HBL.out.trans (hb.mono HBL.out.size))
  have F2n := Lib.hid (F2.out.below hb F2.out.lt)
  have NEg0_g4 := Lib.hid (Nat.ne_of_lt F2.out.lt)
  have HDn := Lib.hid (HD.out.below hb)
  have HEVn := Lib.hid (HEV.out.below (Nat.le_refl _) hb)
  have F5 : Hid (Blk w3 w1.heap.size (Rg.none.cells)) := Lib.hid (by first | exact hA | simpa using hA)
  have GEg4 := Lib.hid HBL.out.size
  clear HBL F2 HD HEV
  have HBL := HBLn
  have F2 := F2n
  have HD := HDn
  have HEV := HEVn
  clear HBLn F2n HDn HEVn
  clear hA hb hl
  generalize w1.heap.size = g4 at *
  refine store_all (cs := Rg.none.cells.toArray) F5.out (by simp only [List.size_toArray, HWN.out.cells, HWN.out.cells]) (by rw [List.size_toArray, HWN.out.cells]; exact info27) (by simpa using Rg.cell_one Rg.none) rfl rfl rfl ?_
  intro w6 hD hO hlD
  try simp only [Act.put, List.setIfInBounds_toArray, List.set_cons_succ, List.set_cons_zero]
  have HBLn := Lib.hid (HBL.out.trans (hO.below HBL.out.size fun k hk => by rw [hk]; exact GEg4.out))
  have F2n := Lib.hid (F2.out.only hO (NEg0_g4.out))
  have F5n : Hid (Blk w6 g4 (Rg.none.cells)) := Lib.hid (by first | exact hD | simpa using hD)
  have HDn := Lib.hid (HD.out.go1 hO GDg4.out NFg4.out)
  have HEVn := Lib.hid (HEV.out.keep hO GEg4.out HP.out)
  clear HBL F2 F5 HD HEV
  have HBL := HBLn
  have F2 := F2n
  have F5 := F5n
  have HD := HDn
  have HEV := HEVn
  clear HBLn F2n F5n HDn HEVn
  clear hD hO hlD
  refine takeL (.int .i64 13) rfl (by go_simp) ?_
  try simp only [Act.put, List.setIfInBounds_toArray, List.set_cons_succ, List.set_cons_zero]
  refine wpList_nil ?_
  go_upto_region 4 with fail
  refine wp_region_lit ?_
  refine takeL (.int .i64 0) rfl (by go_simp) ?_
  try simp only [Act.put, List.setIfInBounds_toArray, List.set_cons_succ, List.set_cons_zero]
  refine wpList_nil ?_
  go_wp2_with fail
  go_loopg [13, 5] 2 (fun n i s wr => ∃ k : Nat, 2 - k ≤ n ∧ k ≤ 2 ∧ i = .int .i64 k ∧ s = .int .i64 (at3 13 0 0 k) ∧ Blk wr w.heap.size Rg.none.cells ∧ Blk wr g4 (at3 Rg.none r r k).cells ∧ Below w.heap.size w wr ∧ De.Dv W0 wr b F d ∧ ErrVar wr)
  case atStart => exact ⟨0, by omega, by omega, rfl, rfl, F2.out, F5.out, HBL.out, HD.out, HEV.out⟩
  case round =>
    obtain ⟨k, hn, hk, rfl, hs, h0, h1, h2, h3, h4⟩ := hrel
    clear F2 F5 HBL HD HEV
    have F2 := Lib.hid h0
    have F5k := Lib.hid h1
    have HBL := Lib.hid h2
    have HD := Lib.hid h3
    have HEV := Lib.hid h4
    have HS := Lib.hid hs
    clear h0 h1 h2 h3 h4 hs
    rcases (show k = 0 ∨ k = 1 ∨ k = 2 by omega) with rfl | rfl | rfl
    · have F5 : Hid (Blk wr g4 Rg.none.cells) := Lib.hid F5k.out
      have hs : _ = Value.int .i64 13 := HS.out
      clear F5k HS
      subst hs
      go_upto_region 7 with fail
      refine wp_region_lit ?_
      refine takeL (.pointer (some ⟨b, 0, none⟩)) rfl (by go_simp) ?_
      try simp only [Act.put, List.setIfInBounds_toArray, List.set_cons_succ, List.set_cons_zero]
      refine takeL (.int .i64 0) rfl (by go_simp) ?_
      try simp only [Act.put, List.setIfInBounds_toArray, List.set_cons_succ, List.set_cons_zero]
      refine wpList_op rfl fun K hK => ?_
      go_simp
      refine (HR0.out _ HEV.out HD.out).mono ?_
      rintro e w7 ⟨rfl, hb⟩
      have HBLn := Lib.hid (HBL.out.trans (hb.mono HBL.out.size))
      have F2n := Lib.hid (F2.out.below hb F2.out.lt)
      have F5n := Lib.hid (F5.out.below hb F5.out.lt)
      have HDn := Lib.hid (HD.out.below hb)
      have HEVn := Lib.hid (HEV.out.below (Nat.le_refl _) hb)
      clear HBL F2 F5 HD HEV
      have HBL := HBLn
      have F2 := F2n
      have F5 := F5n
      have HD := HDn
      have HEV := HEVn
      clear HBLn F2n F5n HDn HEVn
      clear hb
      refine hK _ _ ?_
      clear hK K
      try simp only [Act.put, List.setIfInBounds_toArray, List.set_cons_succ, List.set_cons_zero]
      refine takeL (.tuple #[.agg r.cells.toArray, .nilIface]) rfl (by go_simp) ?_
      try simp only [Act.put, List.setIfInBounds_toArray, List.set_cons_succ, List.set_cons_zero]
      refine takeL (.agg r.cells.toArray) rfl (by go_simp) ?_
      try simp only [Act.put, List.setIfInBounds_toArray, List.set_cons_succ, List.set_cons_zero]
      refine takeL (.nilIface) rfl (by go_simp) ?_
      try simp only [Act.put, List.setIfInBounds_toArray, List.set_cons_succ, List.set_cons_zero]
      refine alloc_g zero27 rfl ?_
      intro w8 hA hb hl
      try simp only [Act.put, List.setIfInBounds_toArray, List.set_cons_succ, List.set_cons_zero]
      have NFg9 := Lib.hid (fun hk => Nat.lt_irrefl _ (HD.out.lt w7.heap.size hk).2)
      have GDg9 := Lib.hid HD.out.2.size
      have HBLn := Lib.hid (HBL.out.trans (hb.mono HBL.out.size))
      have F2n := Lib.hid (F2.out.below hb F2.out.lt)
      have NEg0_g9 := Lib.hid (Nat.ne_of_lt F2.out.lt)
      have F5n := Lib.hid (F5.out.below hb F5.out.lt)
      have NEg4_g9 := Lib.hid (Nat.ne_of_lt F5.out.lt)
      have HDn := Lib.hid (HD.out.below hb)
      have HEVn := Lib.hid (HEV.out.below (Nat.le_refl _) hb)
      have F10 : Hid (Blk w8 w7.heap.size (Rg.none.cells)) := Lib.hid (by first | exact hA | simpa using hA)
      have GEg9 := Lib.hid HBL.out.size
      clear HBL F2 F5 HD HEV
      have HBL := HBLn
      have F2 := F2n
      have F5 := F5n
      have HD := HDn
      have HEV := HEVn
      clear HBLn F2n F5n HDn HEVn
      clear hA hb hl
      generalize w7.heap.size = g9 at *
      refine store_all (cs := r.cells.toArray) F10.out (by simp only [List.size_toArray, HWN.out.cells, HWR.out.cells]) (by rw [List.size_toArray, HWR.out.cells]; exact info27) (by simpa using Rg.cell_one r) rfl rfl rfl ?_
      intro w11 hD hO hlD
      try simp only [Act.put, List.setIfInBounds_toArray, List.set_cons_succ, List.set_cons_zero]
      have HBLn := Lib.hid (HBL.out.trans (hO.below HBL.out.size fun k hk => by rw [hk]; exact GEg9.out))
      have F2n := Lib.hid (F2.out.only hO (NEg0_g9.out))
      have F5n := Lib.hid (F5.out.only hO (NEg4_g9.out))
      have F10n : Hid (Blk w11 g9 (r.cells)) := Lib.hid (by first | exact hD | simpa using hD)
      have HDn := Lib.hid (HD.out.go1 hO GDg9.out NFg9.out)
      have HEVn := Lib.hid (HEV.out.keep hO GEg9.out HP.out)
      clear HBL F2 F5 F10 HD HEV
      have HBL := HBLn
      have F2 := F2n
      have F5 := F5n
      have F10 := F10n
      have HD := HDn
      have HEV := HEVn
      clear HBLn F2n F5n F10n HDn HEVn
      clear hD hO hlD
      refine takeL (.nilIface) rfl (by go_simp) ?_
      try simp only [Act.put, List.setIfInBounds_toArray, List.set_cons_succ, List.set_cons_zero]
      refine wpList_nil ?_
      go_upto_region 8 with fail
      refine wp_region_lit ?_
      refine takeL (.nilIface) rfl (by go_simp) ?_
      try simp only [Act.put, List.setIfInBounds_toArray, List.set_cons_succ, List.set_cons_zero]
      refine wpList_op rfl fun K hK => ?_
      go_simp
      refine (is_nil 13 false rfl _).mono ?_
      rintro e w12 ⟨rfl, hb⟩
      have HBLn := Lib.hid (HBL.out.trans (hb.mono HBL.out.size))
      have F2n := Lib.hid (F2.out.below hb F2.out.lt)
      have F5n := Lib.hid (F5.out.below hb F5.out.lt)
      have F10n := Lib.hid (F10.out.below hb F10.out.lt)
      have HDn := Lib.hid (HD.out.below hb)
      have HEVn := Lib.hid (HEV.out.below (Nat.le_refl _) hb)
      clear HBL F2 F5 F10 HD HEV
      have HBL := HBLn
      have F2 := F2n
      have F5 := F5n
      have F10 := F10n
      have HD := HDn
      have HEV := HEVn
      clear HBLn F2n F5n F10n HDn HEVn
      clear hb
      refine hK _ _ ?_
      clear hK K
      try simp only [Act.put, List.setIfInBounds_toArray, List.set_cons_succ, List.set_cons_zero]
      refine wpList_nil ?_
      go_upto_region 9 with fail
      refine wp_region_lit ?_
      refine takeL (.int .i64 13) rfl (by go_simp) ?_
      try simp only [Act.put, List.setIfInBounds_toArray, List.set_cons_succ, List.set_cons_zero]
      refine takeL (.bool true) rfl (by go_simp) ?_
      try simp only [Act.put, List.setIfInBounds_toArray, List.set_cons_succ, List.set_cons_zero]
      refine takeL (.bool true) rfl (by go_simp) ?_
      try simp only [Act.put, List.setIfInBounds_toArray, List.set_cons_succ, List.set_cons_zero]
      refine passL rfl ?_
      try simp only [Act.put, List.setIfInBounds_toArray, List.set_cons_succ, List.set_cons_zero]
      refine passL rfl ?_
      try simp only [Act.put, List.setIfInBounds_toArray, List.set_cons_succ, List.set_cons_zero]
      refine passL rfl ?_
      try simp only [Act.put, List.setIfInBounds_toArray, List.set_cons_succ, List.set_cons_zero]
      refine passL rfl ?_
      try simp only [Act.put, List.setIfInBounds_toArray, List.set_cons_succ, List.set_cons_zero]
      refine passL rfl ?_
      try simp only [Act.put, List.setIfInBounds_toArray, List.set_cons_succ, List.set_cons_zero]
      refine takeL (.bool true) rfl (by go_simp) ?_
      try simp only [Act.put, List.setIfInBounds_toArray, List.set_cons_succ, List.set_cons_zero]
      refine wpList_nil ?_
      go_upto_region 10 with fail
      refine wp_region_lit ?_
      refine load27 (cs := r.cells.toArray) (Blk.all F10.out rfl) (by rw [List.size_toArray]; exact HWR.out.cells) rfl rfl ?_
      try simp only [Act.put, List.setIfInBounds_toArray, List.set_cons_succ, List.set_cons_zero]
      refine store_all (cs := r.cells.toArray) F5.out (by simp only [List.size_toArray, HWN.out.cells, HWR.out.cells]) (by rw [List.size_toArray, HWR.out.cells]; exact info27) (by simpa using Rg.cell_one r) rfl rfl rfl ?_
      intro w13 hD hO hlD
      try simp only [Act.put, List.setIfInBounds_toArray, List.set_cons_succ, List.set_cons_zero]
      have HBLn := Lib.hid (HBL.out.trans (hO.below HBL.out.size fun k hk => by rw [hk]; exact GEg4.out))
      have F2n := Lib.hid (F2.out.only hO (NEg0_g4.out))
      have F5n : Hid (Blk w13 g4 (r.cells)) := Lib.hid (by first | exact hD | simpa using hD)
      have F10n := Lib.hid (F10.out.only hO (NEg4_g9.out.symm))
      have HDn := Lib.hid (HD.out.go1 hO GDg4.out NFg4.out)
      have HEVn := Lib.hid (HEV.out.keep hO GEg4.out HP.out)
      clear HBL F2 F5 F10 HD HEV
      have HBL := HBLn
      have F2 := F2n
      have F5 := F5n
      have F10 := F10n
      have HD := HDn
      have HEV := HEVn
      clear HBLn F2n F5n F10n HDn HEVn
      clear hD hO hlD
      refine takeL (.int .i64 0) rfl (by go_simp) ?_
      try simp only [Act.put, List.setIfInBounds_toArray, List.set_cons_succ, List.set_cons_zero]
      refine wpList_nil ?_
      go_wp2_with fail
      go_roundg (2 - (0 + 1))
      case measure => omega
      case rel => exact ⟨1, by omega, by omega, by go_num, rfl, F2.out, F5.out, HBL.out, HD.out, HEV.out⟩
    · have F5 : Hid (Blk wr g4 r.cells) := Lib.hid F5k.out
      have hs : _ = Value.int .i64 0 := HS.out
      clear F5k HS
      subst hs
      go_upto_region 7 with fail
      refine wp_region_lit ?_
      refine takeL (.pointer (some ⟨b, 0, none⟩)) rfl (by go_simp) ?_
      try simp only [Act.put, List.setIfInBounds_toArray, List.set_cons_succ, List.set_cons_zero]
      refine takeL (.int .i64 1) rfl (by go_simp) ?_
      try simp only [Act.put, List.setIfInBounds_toArray, List.set_cons_succ, List.set_cons_zero]
      refine wpList_op rfl fun K hK => ?_
      go_simp
      refine (HR1.out _ HEV.out HD.out).mono ?_
      rintro e w7 ⟨TE, dE, tE, tsE, rfl, hc, hb⟩
      have HBLn := Lib.hid (HBL.out.trans (hb.mono HBL.out.size))
      have F2n := Lib.hid (F2.out.below hb F2.out.lt)
      have F5n := Lib.hid (F5.out.below hb F5.out.lt)
      have HDn := Lib.hid (HD.out.below hb)
      have HEVn := Lib.hid (HEV.out.below (Nat.le_refl _) hb)
      clear HBL F2 F5 HD HEV
      have HBL := HBLn
      have F2 := F2n
      have F5 := F5n
      have HD := HDn
      have HEV := HEVn
      clear HBLn F2n F5n HDn HEVn
      have HCH := Lib.hid hc
      clear hc hb
      refine hK _ _ ?_
      clear hK K
      try simp only [Act.put, List.setIfInBounds_toArray, List.set_cons_succ, List.set_cons_zero]
      refine takeL (.tuple #[.agg Rg.none.cells.toArray, .iface TE dE]) rfl (by go_simp) ?_
      try simp only [Act.put, List.setIfInBounds_toArray, List.set_cons_succ, List.set_cons_zero]
      refine takeL (.agg Rg.none.cells.toArray) rfl (by go_simp) ?_
      try simp only [Act.put, List.setIfInBounds_toArray, List.set_cons_succ, List.set_cons_zero]
      refine takeL (.iface TE dE) rfl (by go_simp) ?_
      try simp only [Act.put, List.setIfInBounds_toArray, List.set_cons_succ, List.set_cons_zero]
      refine alloc_g zero27 rfl ?_
      intro w8 hA hb hl
      try simp only [Act.put, List.setIfInBounds_toArray, List.set_cons_succ, List.set_cons_zero]
      have NFg9 := Lib.hid (fun hk => Nat.lt_irrefl _ (HD.out.lt w7.heap.size hk).2)
      have GDg9 := Lib.hid HD.out.2.size
      have HBLn := Lib.hid (HBL.out.trans (hb.mono HBL.out.size))
      have F2n := Lib.hid (F2.out.below hb F2.out.lt)
      have NEg0_g9 := Lib.hid (Nat.ne_of_lt F2.out.lt)
      have F5n := Lib.hid (F5.out.below hb F5.out.lt)
      have NEg4_g9 := Lib.hid (Nat.ne_of_lt F5.out.lt)
      have HDn := Lib.hid (HD.out.below hb)
      have HEVn := Lib.hid (HEV.out.below (Nat.le_refl _) hb)
      have HCHn := Lib.hid (HCH.out.below (Nat.le_refl _) hb)
      have F10 : Hid (Blk w8 w7.heap.size (Rg.none.cells)) := Lib.hid (by first | exact hA | simpa using hA)
      have GEg9 := Lib.hid HBL.out.size
      clear HBL F2 F5 HD HEV HCH
      have HBL := HBLn
      have F2 := F2n
      have F5 := F5n
      have HD := HDn
      have HEV := HEVn
      have HCH := HCHn
      clear HBLn F2n F5n HDn HEVn HCHn
      clear hA hb hl
      generalize w7.heap.size = g9 at *
      refine store_all (cs := Rg.none.cells.toArray) F10.out (by simp only [List.size_toArray, HWN.out.cells, HWN.out.cells]) (by rw [List.size_toArray, HWN.out.cells]; exact info27) (by simpa using Rg.cell_one Rg.none) rfl rfl rfl ?_
      intro w11 hD hO hlD
      try simp only [Act.put, List.setIfInBounds_toArray, List.set_cons_succ, List.set_cons_zero]
      have HBLn := Lib.hid (HBL.out.trans (hO.below HBL.out.size fun k hk => by rw [hk]; exact GEg9.out))
      have F2n := Lib.hid (F2.out.only hO (NEg0_g9.out))
      have F5n := Lib.hid (F5.out.only hO (NEg4_g9.out))
      have F10n : Hid (Blk w11 g9 (Rg.none.cells)) := Lib.hid (by first | exact hD | simpa using hD)
      have HDn := Lib.hid (HD.out.go1 hO GDg9.out NFg9.out)
      have HEVn := Lib.hid (HEV.out.keep hO GEg9.out HP.out)
      have HCHn := Lib.hid (HCH.out.keep hO (Blk.noStr F10.out (Rg.noStr _)))
      clear HBL F2 F5 F10 HD HEV HCH
      have HBL := HBLn
      have F2 := F2n
      have F5 := F5n
      have F10 := F10n
      have HD := HDn
      have HEV := HEVn
      have HCH := HCHn
      clear HBLn F2n F5n F10n HDn HEVn HCHn
      clear hD hO hlD
      refine takeL (.iface TE dE) rfl (by go_simp) ?_
      try simp only [Act.put, List.setIfInBounds_toArray, List.set_cons_succ, List.set_cons_zero]
      refine wpList_nil ?_
      go_upto_region 8 with fail
      refine wp_region_lit ?_
      refine takeL (.iface TE dE) rfl (by go_simp) ?_
      try simp only [Act.put, List.setIfInBounds_toArray, List.set_cons_succ, List.set_cons_zero]
      refine wpList_op rfl fun K hK => ?_
      go_simp
      refine (is_num 13 13 true rfl _ _ _ _ HCH.out).mono ?_
      rintro e w12 ⟨rfl, hb⟩
      have HBLn := Lib.hid (HBL.out.trans (hb.mono HBL.out.size))
      have F2n := Lib.hid (F2.out.below hb F2.out.lt)
      have F5n := Lib.hid (F5.out.below hb F5.out.lt)
      have F10n := Lib.hid (F10.out.below hb F10.out.lt)
      have HDn := Lib.hid (HD.out.below hb)
      have HEVn := Lib.hid (HEV.out.below (Nat.le_refl _) hb)
      have HCHn := Lib.hid (HCH.out.below (Nat.le_refl _) hb)
      clear HBL F2 F5 F10 HD HEV HCH
      have HBL := HBLn
      have F2 := F2n
      have F5 := F5n
      have F10 := F10n
      have HD := HDn
      have HEV := HEVn
      have HCH := HCHn
      clear HBLn F2n F5n F10n HDn HEVn HCHn
      clear hb
      refine hK _ _ ?_
      clear hK K
      try simp only [Act.put, List.setIfInBounds_toArray, List.set_cons_succ, List.set_cons_zero]
      refine wpList_nil ?_
      go_wp2_with fail
      go_roundg (2 - (1 + 1))
      case measure => omega
      case rel => exact ⟨2, by omega, by omega, by go_num, rfl, F2.out, F5.out, HBL.out, HD.out, HEV.out⟩
    · have F5 : Hid (Blk wr g4 r.cells) := Lib.hid F5k.out
      have hs : _ = Value.int .i64 0 := HS.out
      clear F5k HS
      subst hs
      go_upto_region 12 with fail
      refine wp_region_lit ?_
      refine load27 (cs := r.cells.toArray) (Blk.all F5.out rfl) (by rw [List.size_toArray]; exact HWR.out.cells) rfl rfl ?_
      try simp only [Act.put, List.setIfInBounds_toArray, List.set_cons_succ, List.set_cons_zero]
      refine takeL (.int .i64 0) rfl (by go_simp) ?_
      try simp only [Act.put, List.setIfInBounds_toArray, List.set_cons_succ, List.set_cons_zero]
      refine store_all (cs := r.cells.toArray) F2.out (by simp only [List.size_toArray, HWN.out.cells, HWR.out.cells]) (by rw [List.size_toArray, HWR.out.cells]; exact info27) (by simpa using Rg.cell_one r) rfl rfl rfl ?_
      intro w7 hD hO hlD
      try simp only [Act.put, List.setIfInBounds_toArray, List.set_cons_succ, List.set_cons_zero]
      have HBLn := Lib.hid (HBL.out.trans (hO.below HBL.out.size fun k hk => by rw [hk]; exact GEg0.out))
      have F2n : Hid (Blk w7 w.heap.size (r.cells)) := Lib.hid (by first | exact hD | simpa using hD)
      have F5n := Lib.hid (F5.out.only hO (NEg0_g4.out.symm))
      have HDn := Lib.hid (HD.out.go1 hO GDg0.out NFg0.out)
      have HEVn := Lib.hid (HEV.out.keep hO GEg0.out HP.out)
      clear HBL F2 F5 HD HEV
      have HBL := HBLn
      have F2 := F2n
      have F5 := F5n
      have HD := HDn
      have HEV := HEVn
      clear HBLn F2n F5n HDn HEVn
      clear hD hO hlD
      refine takeL (.int .i64 0) rfl (by go_simp) ?_
      try simp only [Act.put, List.setIfInBounds_toArray, List.set_cons_succ, List.set_cons_zero]
      refine wpList_nil ?_
      go_wp2_with fail
      exact bodyPost_ret (v := .tuple #[.agg r.cells.toArray, .int .i64 0]) (results_cell_tmp rfl _ _ w.heap.size 0 _ _ _ rfl rfl Tryd.underlying27 rfl (by rw [List.size_toArray, HWR.out.cells]; exact info27) (Blk.all F2.out rfl)) rfl ⟨rfl, HBL.out⟩

set_option maxRecDepth 100000 in
set_option maxHeartbeats 4000000 in
theorem newest_up (r : Rg) (hr : r.Wf) (q : Rg) (hq : q.Wf) (hc : r.gen < q.gen) (w : World) (hev : ErrVar w) {W0 : World} {b : Nat} {F : Nat → Prop} {d : De.D} (h : De.Dv W0 w b F d) (h0 : (∀ w', ErrVar w' → De.Dv W0 w' b F d → Calls Tryd.prog 8 #[.pointer (some ⟨b, 0, none⟩), .int .i64 0] w' (fun e w2 => Tells (some r) e w' w2))) (h1 : (∀ w', ErrVar w' → De.Dv W0 w' b F d → Calls Tryd.prog 8 #[.pointer (some ⟨b, 0, none⟩), .int .i64 1] w' (fun e w2 => Tells (some q) e w' w2))) : Calls Tryd.prog 5 #[.pointer (some ⟨b, 0, none⟩)] w fun e w' => e = .returned (.tuple #[.agg q.cells.toArray, .int .i64 0]) ∧ Below w.heap.size w w' := by
  have HWN := Lib.hid none_wf
  have HBL : Hid (Below w.heap.size w w) := Lib.hid (Below.refl _ _)
  have HWR := Lib.hid hr
  have HWQ := Lib.hid hq
  have HCMP := Lib.hid hc
  have HEV := Lib.hid hev
  have HP := Lib.hid hev.lt
  have HD := Lib.hid h
  have HR0 := Lib.hid h0
  have HR1 := Lib.hid h1
  clear hev h h0 h1 hr hq hc
  go_enter Tryd.func5, Tryd.ntmps5
  go_upto_region 0 with fail
  refine wp_region_lit ?_
  refine alloc_g zero27 rfl ?_
  intro w1 hA hb hl
  try simp only [Act.put, List.setIfInBounds_toArray, List.set_cons_succ, List.set_cons_zero]
  have NFg0 := Lib.hid (fun hk => Nat.lt_irrefl _ (HD.out.lt w.heap.size hk).2)
  have GDg0 := Lib.hid HD.out.2.size
  have HBLn := Lib.hid (HBL.out.trans (hb.mono HBL.out.size))
  have HDn := Lib.hid (HD.out.below hb)
  have HEVn := Lib.hid (HEV.out.below (Nat.le_refl _) hb)
  have F2 : Hid (Blk w1 w.heap.size (Rg.none.cells)) := Lib.hid (by first | exact hA | simpa using hA)
  have GEg0 := Lib.hid HBL.out.size
  clear HBL HD HEV
  have HBL := HBLn
  have HD := HDn
  have HEV := HEVn
  clear HBLn HDn HEVn
  clear hA hb hl
  refine takeL (.int .i64 0) rfl (by go_simp) ?_
  try simp only [Act.put, List.setIfInBounds_toArray, List.set_cons_succ, List.set_cons_zero]
  refine wpList_nil ?_
  go_upto_region 1 with fail
  refine wp_region_lit ?_
  refine takeL (.pointer (some ⟨b, 0, none⟩)) rfl (by go_simp) ?_
  try simp only [Act.put, List.setIfInBounds_toArray, List.set_cons_succ, List.set_cons_zero]
  refine takeL (.bool false) rfl (by go_simp) ?_
  try simp only [Act.put, List.setIfInBounds_toArray, List.set_cons_succ, List.set_cons_zero]
  refine wpList_nil ?_
  go_upto_region 3 with fail
  refine wp_region_lit ?_
  refine build_g (build27 _) rfl ?_
  try simp only [Act.put, List.setIfInBounds_toArray, List.set_cons_succ, List.set_cons_zero]
  refine alloc_g zero27 rfl ?_
  intro w3 hA hb hl
  try simp only [Act.put, List.setIfInBounds_toArray, List.set_cons_succ, List.set_cons_zero]
  have NFg4 := Lib.hid (fun hk => Nat.lt_irrefl _ (HD.out.lt w1.heap.size hk).2)
  have GDg4 := Lib.hid HD.out.2.size
  have HBLn := Lib.hid (HBL.out.trans (hb.mono HBL.out.size))
  have F2n := Lib.hid (F2.out.below hb F2.out.lt)
  have NEg0_g4 := Lib.hid (Nat.ne_of_lt F2.out.lt)
  have HDn := Lib.hid (HD.out.below hb)
  have HEVn := Lib.hid (HEV.out.below (Nat.le_refl _) hb)
  have F5 : Hid (Blk w3 w1.heap.size (Rg.none.cells)) := Lib.hid (by first | exact hA | simpa using hA)
  have GEg4 := Lib.hid HBL.out.size
  clear HBL F2 HD HEV
  have HBL := HBLn
  have F2 := F2n
  have HD := HDn
  have HEV := HEVn
  clear HBLn F2n HDn HEVn
  clear hA hb hl
  generalize w1.heap.size = g4 at *
  refine store_all (cs := Rg.none.cells.toArray) F5.out (by simp only [List.size_toArray, HWN.out.cells, HWN.out.cells]) (by rw [List.size_toArray, HWN.out.cells]; exact info27) (by simpa using Rg.cell_one Rg.none) rfl rfl rfl ?_
  intro w6 hD hO hlD
  try simp only [Act.put, List.setIfInBounds_toArray, List.set_cons_succ, List.set_cons_zero]
  have HBLn := Lib.hid (HBL.out.trans (hO.below HBL.out.size fun k hk => by rw [hk]; exact GEg4.out))
  have F2n := Lib.hid (F2.out.only hO (NEg0_g4.out))
  have F5n : Hid (Blk w6 g4 (Rg.none.cells)) := Lib.hid (by first | exact hD | simpa using hD)
  have HDn := Lib.hid (HD.out.go1 hO GDg4.out NFg4.out)
  have HEVn := Lib.hid (HEV.out.keep hO GEg4.out HP.out)
  clear HBL F2 F5 HD HEV
  have HBL := HBLn
  have F2 := F2n
  have F5 := F5n
  have HD := HDn
  have HEV := HEVn
  clear HBLn F2n F5n HDn HEVn
  clear hD hO hlD
  refine takeL (.int .i64 13) rfl (by go_simp) ?_
  try simp only [Act.put, List.setIfInBounds_toArray, List.set_cons_succ, List.set_cons_zero]
  refine wpList_nil ?_
  go_upto_region 4 with fail
  refine wp_region_lit ?_
  refine takeL (.int .i64 0) rfl (by go_simp) ?_
  try simp only [Act.put, List.setIfInBounds_toArray, List.set_cons_succ, List.set_cons_zero]
  refine wpList_nil ?_
  go_wp2_with fail
  go_loopg [13, 5] 2 (fun n i s wr => ∃ k : Nat, 2 - k ≤ n ∧ k ≤ 2 ∧ i = .int .i64 k ∧ s = .int .i64 (at3 13 0 0 k) ∧ Blk wr w.heap.size Rg.none.cells ∧ Blk wr g4 (at3 Rg.none r q k).cells ∧ Below w.heap.size w wr ∧ De.Dv W0 wr b F d ∧ ErrVar wr)
  case atStart => exact ⟨0, by omega, by omega, rfl, rfl, F2.out, F5.out, HBL.out, HD.out, HEV.out⟩
  case round =>
    obtain ⟨k, hn, hk, rfl, hs, h0, h1, h2, h3, h4⟩ := hrel
    clear F2 F5 HBL HD HEV
    have F2 := Lib.hid h0
    have F5k := Lib.hid h1
    have HBL := Lib.hid h2
    have HD := Lib.hid h3
    have HEV := Lib.hid h4
    have HS := Lib.hid hs
    clear h0 h1 h2 h3 h4 hs
    rcases (show k = 0 ∨ k = 1 ∨ k = 2 by omega) with rfl | rfl | rfl
    · have F5 : Hid (Blk wr g4 Rg.none.cells) := Lib.hid F5k.out
      have hs : _ = Value.int .i64 13 := HS.out
      clear F5k HS
      subst hs
      go_upto_region 7 with fail
      refine wp_region_lit ?_
      refine takeL (.pointer (some ⟨b, 0, none⟩)) rfl (by go_simp) ?_
      try simp only [Act.put, List.setIfInBounds_toArray, List.set_cons_succ, List.set_cons_zero]
      refine takeL (.int .i64 0) rfl (by go_simp) ?_
      try simp only [Act.put, List.setIfInBounds_toArray, List.set_cons_succ, List.set_cons_zero]
      refine wpList_op rfl fun K hK => ?_
      go_simp
      refine (HR0.out _ HEV.out HD.out).mono ?_
      rintro e w7 ⟨rfl, hb⟩
      have HBLn := Lib.hid (HBL.out.trans (hb.mono HBL.out.size))
      have F2n := Lib.hid (F2.out.below hb F2.out.lt)
      have F5n := Lib.hid (F5.out.below hb F5.out.lt)
      have HDn := Lib.hid (HD.out.below hb)
      have HEVn := Lib.hid (HEV.out.below (Nat.le_refl _) hb)
      clear HBL F2 F5 HD HEV
      have HBL := HBLn
      have F2 := F2n
      have F5 := F5n
      have HD := HDn
      have HEV := HEVn
      clear HBLn F2n F5n HDn HEVn
      clear hb
      refine hK _ _ ?_
      clear hK K
      try simp only [Act.put, List.setIfInBounds_toArray, List.set_cons_succ, List.set_cons_zero]
      refine takeL (.tuple #[.agg r.cells.toArray, .nilIface]) rfl (by go_simp) ?_
      try simp only [Act.put, List.setIfInBounds_toArray, List.set_cons_succ, List.set_cons_zero]
      refine takeL (.agg r.cells.toArray) rfl (by go_simp) ?_
      try simp only [Act.put, List.setIfInBounds_toArray, List.set_cons_succ, List.set_cons_zero]
      refine takeL (.nilIface) rfl (by go_simp) ?_
      try simp only [Act.put, List.setIfInBounds_toArray, List.set_cons_succ, List.set_cons_zero]
      refine alloc_g zero27 rfl ?_
      intro w8 hA hb hl
      try simp only [Act.put, List.setIfInBounds_toArray, List.set_cons_succ, List.set_cons_zero]
      have NFg9 := Lib.hid (fun hk => Nat.lt_irrefl _ (HD.out.lt w7.heap.size hk).2)
      have GDg9 := Lib.hid HD.out.2.size
      have HBLn := Lib.hid (HBL.out.trans (hb.mono HBL.out.size))
      have F2n := Lib.hid (F2.out.below hb F2.out.lt)
      have NEg0_g9 := Lib.hid (Nat.ne_of_lt F2.out.lt)
      have F5n := Lib.hid (F5.out.below hb F5.out.lt)
      have NEg4_g9 := Lib.hid (Nat.ne_of_lt F5.out.lt)
      have HDn := Lib.hid (HD.out.below hb)
      have HEVn := Lib.hid (HEV.out.below (Nat.le_refl _) hb)
      have F10 : Hid (Blk w8 w7.heap.size (Rg.none.cells)) := Lib.hid (by first | exact hA | simpa using hA)
      have GEg9 := Lib.hid HBL.out.size
      clear HBL F2 F5 HD HEV
      have HBL := HBLn
      have F2 := F2n
      have F5 := F5n
      have HD := HDn
      have HEV := HEVn
      clear HBLn F2n F5n HDn HEVn
      clear hA hb hl
      generalize w7.heap.size = g9 at *
      refine store_all (cs := r.cells.toArray) F10.out (by simp only [List.size_toArray, HWN.out.cells, HWR.out.cells]) (by rw [List.size_toArray, HWR.out.cells]; exact info27) (by simpa using Rg.cell_one r) rfl rfl rfl ?_
      intro w11 hD hO hlD
      try simp only [Act.put, List.setIfInBounds_toArray, List.set_cons_succ, List.set_cons_zero]
      have HBLn := Lib.hid (HBL.out.trans (hO.below HBL.out.size fun k hk => by rw [hk]; exact GEg9.out))
      have F2n := Lib.hid (F2.out.only hO (NEg0_g9.out))
      have F5n := Lib.hid (F5.out.only hO (NEg4_g9.out))
      have F10n : Hid (Blk w11 g9 (r.cells)) := Lib.hid (by first | exact hD | simpa using hD)
      have HDn := Lib.hid (HD.out.go1 hO GDg9.out NFg9.out)
      have HEVn := Lib.hid (HEV.out.keep hO GEg9.out HP.out)
      clear HBL F2 F5 F10 HD HEV
      have HBL := HBLn
      have F2 := F2n
      have F5 := F5n
      have F10 := F10n
      have HD := HDn
      have HEV := HEVn
      clear HBLn F2n F5n F10n HDn HEVn
      clear hD hO hlD
      refine takeL (.nilIface) rfl (by go_simp) ?_
      try simp only [Act.put, List.setIfInBounds_toArray, List.set_cons_succ, List.set_cons_zero]
      refine wpList_nil ?_
      go_upto_region 8 with fail
      refine wp_region_lit ?_
      refine takeL (.nilIface) rfl (by go_simp) ?_
      try simp only [Act.put, List.setIfInBounds_toArray, List.set_cons_succ, List.set_cons_zero]
      refine wpList_op rfl fun K hK => ?_
      go_simp
      refine (is_nil 13 false rfl _).mono ?_
      rintro e w12 ⟨rfl, hb⟩
      have HBLn := Lib.hid (HBL.out.trans (hb.mono HBL.out.size))
      have F2n := Lib.hid (F2.out.below hb F2.out.lt)
      have F5n := Lib.hid (F5.out.below hb F5.out.lt)
      have F10n := Lib.hid (F10.out.below hb F10.out.lt)
      have HDn := Lib.hid (HD.out.below hb)
      have HEVn := Lib.hid (HEV.out.below (Nat.le_refl _) hb)
      clear HBL F2 F5 F10 HD HEV
      have HBL := HBLn
      have F2 := F2n
      have F5 := F5n
      have F10 := F10n
      have HD := HDn
      have HEV := HEVn
      clear HBLn F2n F5n F10n HDn HEVn
      clear hb
      refine hK _ _ ?_
      clear hK K
      try simp only [Act.put, List.setIfInBounds_toArray, List.set_cons_succ, List.set_cons_zero]
      refine wpList_nil ?_
      go_upto_region 9 with fail
      refine wp_region_lit ?_
      refine takeL (.int .i64 13) rfl (by go_simp) ?_
      try simp only [Act.put, List.setIfInBounds_toArray, List.set_cons_succ, List.set_cons_zero]
      refine takeL (.bool true) rfl (by go_simp) ?_
      try simp only [Act.put, List.setIfInBounds_toArray, List.set_cons_succ, List.set_cons_zero]
      refine takeL (.bool true) rfl (by go_simp) ?_
      try simp only [Act.put, List.setIfInBounds_toArray, List.set_cons_succ, List.set_cons_zero]
      refine passL rfl ?_
      try simp only [Act.put, List.setIfInBounds_toArray, List.set_cons_succ, List.set_cons_zero]
      refine passL rfl ?_
      try simp only [Act.put, List.setIfInBounds_toArray, List.set_cons_succ, List.set_cons_zero]
      refine passL rfl ?_
      try simp only [Act.put, List.setIfInBounds_toArray, List.set_cons_succ, List.set_cons_zero]
      refine passL rfl ?_
      try simp only [Act.put, List.setIfInBounds_toArray, List.set_cons_succ, List.set_cons_zero]
      refine passL rfl ?_
      try simp only [Act.put, List.setIfInBounds_toArray, List.set_cons_succ, List.set_cons_zero]
      refine takeL (.bool true) rfl (by go_simp) ?_
      try simp only [Act.put, List.setIfInBounds_toArray, List.set_cons_succ, List.set_cons_zero]
      refine wpList_nil ?_
      go_upto_region 10 with fail
      refine wp_region_lit ?_
      refine load27 (cs := r.cells.toArray) (Blk.all F10.out rfl) (by rw [List.size_toArray]; exact HWR.out.cells) rfl rfl ?_
      try simp only [Act.put, List.setIfInBounds_toArray, List.set_cons_succ, List.set_cons_zero]
      refine store_all (cs := r.cells.toArray) F5.out (by simp only [List.size_toArray, HWN.out.cells, HWR.out.cells]) (by rw [List.size_toArray, HWR.out.cells]; exact info27) (by simpa using Rg.cell_one r) rfl rfl rfl ?_
      intro w13 hD hO hlD
      try simp only [Act.put, List.setIfInBounds_toArray, List.set_cons_succ, List.set_cons_zero]
      have HBLn := Lib.hid (HBL.out.trans (hO.below HBL.out.size fun k hk => by rw [hk]; exact GEg4.out))
      have F2n := Lib.hid (F2.out.only hO (NEg0_g4.out))
      have F5n : Hid (Blk w13 g4 (r.cells)) := Lib.hid (by first | exact hD | simpa using hD)
      have F10n := Lib.hid (F10.out.only hO (NEg4_g9.out.symm))
      have HDn := Lib.hid (HD.out.go1 hO GDg4.out NFg4.out)
      have HEVn := Lib.hid (HEV.out.keep hO GEg4.out HP.out)
      clear HBL F2 F5 F10 HD HEV
      have HBL := HBLn
      have F2 := F2n
      have F5 := F5n
      have F10 := F10n
      have HD := HDn
      have HEV := HEVn
      clear HBLn F2n F5n F10n HDn HEVn
      clear hD hO hlD
      refine takeL (.int .i64 0) rfl (by go_simp) ?_
      try simp only [Act.put, List.setIfInBounds_toArray, List.set_cons_succ, List.set_cons_zero]
      refine wpList_nil ?_
      go_wp2_with fail
      go_roundg (2 - (0 + 1))
      case measure => omega
      case rel => exact ⟨1, by omega, by omega, by go_num, rfl, F2.out, F5.out, HBL.out, HD.out, HEV.out⟩
    · have F5 : Hid (Blk wr g4 r.cells) := Lib.hid F5k.out
      have hs : _ = Value.int .i64 0 := HS.out
      clear F5k HS
      subst hs
      go_upto_region 7 with fail
      refine wp_region_lit ?_
      refine takeL (.pointer (some ⟨b, 0, none⟩)) rfl (by go_simp) ?_
      try simp only [Act.put, List.setIfInBounds_toArray, List.set_cons_succ, List.set_cons_zero]
      refine takeL (.int .i64 1) rfl (by go_simp) ?_
      try simp only [Act.put, List.setIfInBounds_toArray, List.set_cons_succ, List.set_cons_zero]
      refine wpList_op rfl fun K hK => ?_
      go_simp
      refine (HR1.out _ HEV.out HD.out).mono ?_
      rintro e w7 ⟨rfl, hb⟩
      have HBLn := Lib.hid (HBL.out.trans (hb.mono HBL.out.size))
      have F2n := Lib.hid (F2.out.below hb F2.out.lt)
      have F5n := Lib.hid (F5.out.below hb F5.out.lt)
      have HDn := Lib.hid (HD.out.below hb)
      have HEVn := Lib.hid (HEV.out.below (Nat.le_refl _) hb)
      clear HBL F2 F5 HD HEV
      have HBL := HBLn
      have F2 := F2n
      have F5 := F5n
      have HD := HDn
      have HEV := HEVn
      clear HBLn F2n F5n HDn HEVn
      clear hb
      refine hK _ _ ?_
      clear hK K
      try simp only [Act.put, List.setIfInBounds_toArray, List.set_cons_succ, List.set_cons_zero]
      refine takeL (.tuple #[.agg q.cells.toArray, .nilIface]) rfl (by go_simp) ?_
      try simp only [Act.put, List.setIfInBounds_toArray, List.set_cons_succ, List.set_cons_zero]
      refine takeL (.agg q.cells.toArray) rfl (by go_simp) ?_
      try simp only [Act.put, List.setIfInBounds_toArray, List.set_cons_succ, List.set_cons_zero]
      refine takeL (.nilIface) rfl (by go_simp) ?_
      try simp only [Act.put, List.setIfInBounds_toArray, List.set_cons_succ, List.set_cons_zero]
      refine alloc_g zero27 rfl ?_
      intro w8 hA hb hl
      try simp only [Act.put, List.setIfInBounds_toArray, List.set_cons_succ, List.set_cons_zero]
      have NFg9 := Lib.hid (fun hk => Nat.lt_irrefl _ (HD.out.lt w7.heap.size hk).2)
      have GDg9 := Lib.hid HD.out.2.size
      have HBLn := Lib.hid (HBL.out.trans (hb.mono HBL.out.size))
      have F2n := Lib.hid (F2.out.below hb F2.out.lt)
      have NEg0_g9 := Lib.hid (Nat.ne_of_lt F2.out.lt)
      have F5n := Lib.hid (F5.out.below hb F5.out.lt)
      have NEg4_g9 := Lib.hid (Nat.ne_of_lt F5.out.lt)
      have HDn := Lib.hid (HD.out.below hb)
      have HEVn := Lib.hid (HEV.out.below (Nat.le_refl _) hb)
      have F10 : Hid (Blk w8 w7.heap.size (Rg.none.cells)) := Lib.hid (by first | exact hA | simpa using hA)
      have GEg9 := Lib.hid HBL.out.size
      clear HBL F2 F5 HD HEV
      have HBL := HBLn
      have F2 := F2n
      have F5 := F5n
      have HD := HDn
      have HEV := HEVn
      clear HBLn F2n F5n HDn HEVn
      clear hA hb hl
      generalize w7.heap.size = g9 at *
      refine store_all (cs := q.cells.toArray) F10.out (by simp only [List.size_toArray, HWN.out.cells, HWQ.out.cells]) (by rw [List.size_toArray, HWQ.out.cells]; exact info27) (by simpa using Rg.cell_one q) rfl rfl rfl ?_
      intro w11 hD hO hlD
      try simp only [Act.put, List.setIfInBounds_toArray, List.set_cons_succ, List.set_cons_zero]
      have HBLn := Lib.hid (HBL.out.trans (hO.below HBL.out.size fun k hk => by rw [hk]; exact GEg9.out))
      have F2n := Lib.hid (F2.out.only hO (NEg0_g9.out))
      have F5n := Lib.hid (F5.out.only hO (NEg4_g9.out))
      have F10n : Hid (Blk w11 g9 (q.cells)) := Lib.hid (by first | exact hD | simpa using hD)
      have HDn := Lib.hid (HD.out.go1 hO GDg9.out NFg9.out)
      have HEVn := Lib.hid (HEV.out.keep hO GEg9.out HP.out)
      clear HBL F2 F5 F10 HD HEV
      have HBL := HBLn
      have F2 := F2n
      have F5 := F5n
      have F10 := F10n
      have HD := HDn
      have HEV := HEVn
      clear HBLn F2n F5n F10n HDn HEVn
      clear hD hO hlD
      refine takeL (.nilIface) rfl (by go_simp) ?_
      try simp only [Act.put, List.setIfInBounds_toArray, List.set_cons_succ, List.set_cons_zero]
      refine wpList_nil ?_
      go_upto_region 8 with fail
      refine wp_region_lit ?_
      refine takeL (.nilIface) rfl (by go_simp) ?_
      try simp only [Act.put, List.setIfInBounds_toArray, List.set_cons_succ, List.set_cons_zero]
      refine wpList_op rfl fun K hK => ?_
      go_simp
      refine (is_nil 13 false rfl _).mono ?_
      rintro e w12 ⟨rfl, hb⟩
      have HBLn := Lib.hid (HBL.out.trans (hb.mono HBL.out.size))
      have F2n := Lib.hid (F2.out.below hb F2.out.lt)
      have F5n := Lib.hid (F5.out.below hb F5.out.lt)
      have F10n := Lib.hid (F10.out.below hb F10.out.lt)
      have HDn := Lib.hid (HD.out.below hb)
      have HEVn := Lib.hid (HEV.out.below (Nat.le_refl _) hb)
      clear HBL F2 F5 F10 HD HEV
      have HBL := HBLn
      have F2 := F2n
      have F5 := F5n
      have F10 := F10n
      have HD := HDn
      have HEV := HEVn
      clear HBLn F2n F5n F10n HDn HEVn
      clear hb
      refine hK _ _ ?_
      clear hK K
      try simp only [Act.put, List.setIfInBounds_toArray, List.set_cons_succ, List.set_cons_zero]
      refine wpList_nil ?_
      go_upto_region 9 with fail
      refine wp_region_lit ?_
      refine takeL (.int .i64 0) rfl (by go_simp) ?_
      try simp only [Act.put, List.setIfInBounds_toArray, List.set_cons_succ, List.set_cons_zero]
      refine takeL (.bool false) rfl (by go_simp) ?_
      try simp only [Act.put, List.setIfInBounds_toArray, List.set_cons_succ, List.set_cons_zero]
      refine takeL (.bool false) rfl (by go_simp) ?_
      try simp only [Act.put, List.setIfInBounds_toArray, List.set_cons_succ, List.set_cons_zero]
      refine takeL (.pointer (some ⟨g9, 0, none⟩)) rfl (by go_simp) ?_
      try simp only [Act.put, List.setIfInBounds_toArray, List.set_cons_succ, List.set_cons_zero]
      refine takeL (.int .u32 q.gen) rfl (by (have hc := F10.out.cell (i := 0) (v := .int .u32 q.gen) rfl; go_simp)) ?_
      try simp only [Act.put, List.setIfInBounds_toArray, List.set_cons_succ, List.set_cons_zero]
      refine takeL (.pointer (some ⟨g4, 0, none⟩)) rfl (by go_simp) ?_
      try simp only [Act.put, List.setIfInBounds_toArray, List.set_cons_succ, List.set_cons_zero]
      refine takeL (.int .u32 r.gen) rfl (by (have hc := F5.out.cell (i := 0) (v := .int .u32 r.gen) rfl; go_simp)) ?_
      try simp only [Act.put, List.setIfInBounds_toArray, List.set_cons_succ, List.set_cons_zero]
      refine takeL (.bool true) rfl (by go_simp; simp only [HCMP.out, decide_true]) ?_
      try simp only [Act.put, List.setIfInBounds_toArray, List.set_cons_succ, List.set_cons_zero]
      refine takeL (.bool true) rfl (by go_simp) ?_
      try simp only [Act.put, List.setIfInBounds_toArray, List.set_cons_succ, List.set_cons_zero]
      refine wpList_nil ?_
      go_upto_region 10 with fail
      refine wp_region_lit ?_
      refine load27 (cs := q.cells.toArray) (Blk.all F10.out rfl) (by rw [List.size_toArray]; exact HWQ.out.cells) rfl rfl ?_
      try simp only [Act.put, List.setIfInBounds_toArray, List.set_cons_succ, List.set_cons_zero]
      refine store_all (cs := q.cells.toArray) F5.out (by simp only [List.size_toArray, HWR.out.cells, HWQ.out.cells]) (by rw [List.size_toArray, HWQ.out.cells]; exact info27) (by simpa using Rg.cell_one q) rfl rfl rfl ?_
      intro w13 hD hO hlD
      try simp only [Act.put, List.setIfInBounds_toArray, List.set_cons_succ, List.set_cons_zero]
      have HBLn := Lib.hid (HBL.out.trans (hO.below HBL.out.size fun k hk => by rw [hk]; exact GEg4.out))
      have F2n := Lib.hid (F2.out.only hO (NEg0_g4.out))
      have F5n : Hid (Blk w13 g4 (q.cells)) := Lib.hid (by first | exact hD | simpa using hD)
      have F10n := Lib.hid (F10.out.only hO (NEg4_g9.out.symm))
      have HDn := Lib.hid (HD.out.go1 hO GDg4.out NFg4.out)
      have HEVn := Lib.hid (HEV.out.keep hO GEg4.out HP.out)
      clear HBL F2 F5 F10 HD HEV
      have HBL := HBLn
      have F2 := F2n
      have F5 := F5n
      have F10 := F10n
      have HD := HDn
      have HEV := HEVn
      clear HBLn F2n F5n F10n HDn HEVn
      clear hD hO hlD
      refine takeL (.int .i64 0) rfl (by go_simp) ?_
      try simp only [Act.put, List.setIfInBounds_toArray, List.set_cons_succ, List.set_cons_zero]
      refine wpList_nil ?_
      go_wp2_with fail
      go_roundg (2 - (1 + 1))
      case measure => omega
      case rel => exact ⟨2, by omega, by omega, by go_num, rfl, F2.out, F5.out, HBL.out, HD.out, HEV.out⟩
    · have F5 : Hid (Blk wr g4 q.cells) := Lib.hid F5k.out
      have hs : _ = Value.int .i64 0 := HS.out
      clear F5k HS
      subst hs
      go_upto_region 12 with fail
      refine wp_region_lit ?_
      refine load27 (cs := q.cells.toArray) (Blk.all F5.out rfl) (by rw [List.size_toArray]; exact HWQ.out.cells) rfl rfl ?_
      try simp only [Act.put, List.setIfInBounds_toArray, List.set_cons_succ, List.set_cons_zero]
      refine takeL (.int .i64 0) rfl (by go_simp) ?_
      try simp only [Act.put, List.setIfInBounds_toArray, List.set_cons_succ, List.set_cons_zero]
      refine store_all (cs := q.cells.toArray) F2.out (by simp only [List.size_toArray, HWN.out.cells, HWQ.out.cells]) (by rw [List.size_toArray, HWQ.out.cells]; exact info27) (by simpa using Rg.cell_one q) rfl rfl rfl ?_
      intro w7 hD hO hlD
      try simp only [Act.put, List.setIfInBounds_toArray, List.set_cons_succ, List.set_cons_zero]
      have HBLn := Lib.hid (HBL.out.trans (hO.below HBL.out.size fun k hk => by rw [hk]; exact GEg0.out))
      have F2n : Hid (Blk w7 w.heap.size (q.cells)) := Lib.hid (by first | exact hD | simpa using hD)
      have F5n := Lib.hid (F5.out.only hO (NEg0_g4.out.symm))
      have HDn := Lib.hid (HD.out.go1 hO GDg0.out NFg0.out)
      have HEVn := Lib.hid (HEV.out.keep hO GEg0.out HP.out)
      clear HBL F2 F5 HD HEV
      have HBL := HBLn
      have F2 := F2n
      have F5 := F5n
      have HD := HDn
      have HEV := HEVn
      clear HBLn F2n F5n HDn HEVn
      clear hD hO hlD
      refine takeL (.int .i64 0) rfl (by go_simp) ?_
      try simp only [Act.put, List.setIfInBounds_toArray, List.set_cons_succ, List.set_cons_zero]
      refine wpList_nil ?_
      go_wp2_with fail
      exact bodyPost_ret (v := .tuple #[.agg q.cells.toArray, .int .i64 0]) (results_cell_tmp rfl _ _ w.heap.size 0 _ _ _ rfl rfl Tryd.underlying27 rfl (by rw [List.size_toArray, HWQ.out.cells]; exact info27) (Blk.all F2.out rfl)) rfl ⟨rfl, HBL.out⟩

set_option maxRecDepth 100000 in
set_option maxHeartbeats 4000000 in
theorem newest_down (r : Rg) (hr : r.Wf) (q : Rg) (hq : q.Wf) (hc : ¬ r.gen < q.gen) (w : World) (hev : ErrVar w) {W0 : World} {b : Nat} {F : Nat → Prop} {d : De.D} (h : De.Dv W0 w b F d) (h0 : (∀ w', ErrVar w' → De.Dv W0 w' b F d → Calls Tryd.prog 8 #[.pointer (some ⟨b, 0, none⟩), .int .i64 0] w' (fun e w2 => Tells (some r) e w' w2))) (h1 : (∀ w', ErrVar w' → De.Dv W0 w' b F d → Calls Tryd.prog 8 #[.pointer (some ⟨b, 0, none⟩), .int .i64 1] w' (fun e w2 => Tells (some q) e w' w2))) : Calls Tryd.prog 5 #[.pointer (some ⟨b, 0, none⟩)] w fun e w' => e = .returned (.tuple #[.agg r.cells.toArray, .int .i64 0]) ∧ Below w.heap.size w w' := by
  have HWN := Lib.hid none_wf
  have HBL : Hid (Below w.heap.size w w) := Lib.hid (Below.refl _ _)
  have HWR := Lib.hid hr
  have HWQ := Lib.hid hq
  have HCMP := Lib.hid hc
  have HEV := Lib.hid hev
  have HP := Lib.hid hev.lt
  have HD := Lib.hid h
  have HR0 := Lib.hid h0
  have HR1 := Lib.hid h1
  clear hev h h0 h1 hr hq hc
  go_enter Tryd.func5, Tryd.ntmps5
  go_upto_region 0 with fail
  refine wp_region_lit ?_
  refine alloc_g zero27 rfl ?_
  intro w1 hA hb hl
  try simp only [Act.put, List.setIfInBounds_toArray, List.set_cons_succ, List.set_cons_zero]
  have NFg0 := Lib.hid (fun hk => Nat.lt_irrefl _ (HD.out.lt w.heap.size hk).2)
  have GDg0 := Lib.hid HD.out.2.size
  have HBLn := Lib.hid (HBL.out.trans (hb.mono HBL.out.size))
  have HDn := Lib.hid (HD.out.below hb)
  have HEVn := Lib.hid (HEV.out.below (Nat.le_refl _) hb)
  have F2 : Hid (Blk w1 w.heap.size (Rg.none.cells)) := Lib.hid (by first | exact hA | simpa using hA)
  have GEg0 := Lib.hid HBL.out.size
  clear HBL HD HEV
  have HBL := HBLn
  have HD := HDn
  have HEV := HEVn
  clear HBLn HDn HEVn
  clear hA hb hl
  refine takeL (.int .i64 0) rfl (by go_simp) ?_
  try simp only [Act.put, List.setIfInBounds_toArray, List.set_cons_succ, List.set_cons_zero]
  refine wpList_nil ?_
  go_upto_region 1 with fail
  refine wp_region_lit ?_
  refine takeL (.pointer (some ⟨b, 0, none⟩)) rfl (by go_simp) ?_
  try simp only [Act.put, List.setIfInBounds_toArray, List.set_cons_succ, List.set_cons_zero]
  refine takeL (.bool false) rfl (by go_simp) ?_
  try simp only [Act.put, List.setIfInBounds_toArray, List.set_cons_succ, List.set_cons_zero]
  refine wpList_nil ?_
  go_upto_region 3 with fail
  refine wp_region_lit ?_
  refine build_g (build27 _) rfl ?_
  try simp only [Act.put, List.setIfInBounds_toArray, List.set_cons_succ, List.set_cons_zero]
  refine alloc_g zero27 rfl ?_
  intro w3 hA hb hl
  try simp only [Act.put, List.setIfInBounds_toArray, List.set_cons_succ, List.set_cons_zero]
  have NFg4 := Lib.hid (fun hk => Nat.lt_irrefl _ (HD.out.lt w1.heap.size hk).2)
  have GDg4 := Lib.hid HD.out.2.size
  have HBLn := Lib.hid (HBL.out.trans (hb.mono HBL.out.size))
  have F2n := Lib.hid (F2.out.below hb F2.out.lt)
  have NEg0_g4 := Lib.hid (Nat.ne_of_lt F2.out.lt)
  have HDn := Lib.hid (HD.out.below hb)
  have HEVn := Lib.hid (HEV.out.below (Nat.le_refl _) hb)
  have F5 : Hid (Blk w3 w1.heap.size (Rg.none.cells)) := Lib.hid (by first | exact hA | simpa using hA)
  have GEg4 := Lib.hid HBL.out.size
  clear HBL F2 HD HEV
  have HBL := HBLn
  have F2 := F2n
  have HD := HDn
  have HEV := HEVn
  clear HBLn F2n HDn HEVn
  clear hA hb hl
  generalize w1.heap.size = g4 at *
  refine store_all (cs := Rg.none.cells.toArray) F5.out (by simp only [List.size_toArray, HWN.out.cells, HWN.out.cells]) (by rw [List.size_toArray, HWN.out.cells]; exact info27) (by simpa using Rg.cell_one Rg.none) rfl rfl rfl ?_
  intro w6 hD hO hlD
  try simp only [Act.put, List.setIfInBounds_toArray, List.set_cons_succ, List.set_cons_zero]
  have HBLn := Lib.hid (HBL.out.trans (hO.below HBL.out.size fun k hk => by rw [hk]; exact GEg4.out))
  have F2n := Lib.hid (F2.out.only hO (NEg0_g4.out))
  have F5n : Hid (Blk w6 g4 (Rg.none.cells)) := Lib.hid (by first | exact hD | simpa using hD)
  have HDn := Lib.hid (HD.out.go1 hO GDg4.out NFg4.out)
  have HEVn := Lib.hid (HEV.out.keep hO GEg4.out HP.out)
  clear HBL F2 F5 HD HEV
  have HBL := HBLn
  have F2 := F2n
  have F5 := F5n
  have HD := HDn
  have HEV := HEVn
  clear HBLn F2n F5n HDn HEVn
  clear hD hO hlD
  refine takeL (.int .i64 13) rfl (by go_simp) ?_
  try simp only [Act.put, List.setIfInBounds_toArray, List.set_cons_succ, List.set_cons_zero]
  refine wpList_nil ?_
  go_upto_region 4 with fail
  refine wp_region_lit ?_
  refine takeL (.int .i64 0) rfl (by go_simp) ?_
  try simp only [Act.put, List.setIfInBounds_toArray, List.set_cons_succ, List.set_cons_zero]
  refine wpList_nil ?_
  go_wp2_with fail
  go_loopg [13, 5] 2 (fun n i s wr => ∃ k : Nat, 2 - k ≤ n ∧ k ≤ 2 ∧ i = .int .i64 k ∧ s = .int .i64 (at3 13 0 0 k) ∧ Blk wr w.heap.size Rg.none.cells ∧ Blk wr g4 (at3 Rg.none r r k).cells ∧ Below w.heap.size w wr ∧ De.Dv W0 wr b F d ∧ ErrVar wr)
  case atStart => exact ⟨0, by omega, by omega, rfl, rfl, F2.out, F5.out, HBL.out, HD.out, HEV.out⟩
  case round =>
    obtain ⟨k, hn, hk, rfl, hs, h0, h1, h2, h3, h4⟩ := hrel
    clear F2 F5 HBL HD HEV
    have F2 := Lib.hid h0
    have F5k := Lib.hid h1
    have HBL := Lib.hid h2
    have HD := Lib.hid h3
    have HEV := Lib.hid h4
    have HS := Lib.hid hs
    clear h0 h1 h2 h3 h4 hs
    rcases (show k = 0 ∨ k = 1 ∨ k = 2 by omega) with rfl | rfl | rfl
    · have F5 : Hid (Blk wr g4 Rg.none.cells) := Lib.hid F5k.out
      have hs : _ = Value.int .i64 13 := HS.out
      clear F5k HS
      subst hs
      go_upto_region 7 with fail
      refine wp_region_lit ?_
      refine takeL (.pointer (some ⟨b, 0, none⟩)) rfl (by go_simp) ?_
      try simp only [Act.put, List.setIfInBounds_toArray, List.set_cons_succ, List.set_cons_zero]
      refine takeL (.int .i64 0) rfl (by go_simp) ?_
      try simp only [Act.put, List.setIfInBounds_toArray, List.set_cons_succ, List.set_cons_zero]
      refine wpList_op rfl fun K hK => ?_
      go_simp
      refine (HR0.out _ HEV.out HD.out).mono ?_
      rintro e w7 ⟨rfl, hb⟩
      have HBLn := Lib.hid (HBL.out.trans (hb.mono HBL.out.size))
      have F2n := Lib.hid (F2.out.below hb F2.out.lt)
      have F5n := Lib.hid (F5.out.below hb F5.out.lt)
      have HDn := Lib.hid (HD.out.below hb)
      have HEVn := Lib.hid (HEV.out.below (Nat.le_refl _) hb)
      clear HBL F2 F5 HD HEV
      have HBL := HBLn
      have F2 := F2n
      have F5 := F5n
      have HD := HDn
      have HEV := HEVn
      clear HBLn F2n F5n HDn HEVn
      clear hb
      refine hK _ _ ?_
      clear hK K
      try simp only [Act.put, List.setIfInBounds_toArray, List.set_cons_succ, List.set_cons_zero]
      refine takeL (.tuple #[.agg r.cells.toArray, .nilIface]) rfl (by go_simp) ?_
      try simp only [Act.put, List.setIfInBounds_toArray, List.set_cons_succ, List.set_cons_zero]
      refine takeL (.agg r.cells.toArray) rfl (by go_simp) ?_
      try simp only [Act.put, List.setIfInBounds_toArray, List.set_cons_succ, List.set_cons_zero]
      refine takeL (.nilIface) rfl (by go_simp) ?_
      try simp only [Act.put, List.setIfInBounds_toArray, List.set_cons_succ, List.set_cons_zero]
      refine alloc_g zero27 rfl ?_
      intro w8 hA hb hl
      try simp only [Act.put, List.setIfInBounds_toArray, List.set_cons_succ, List.set_cons_zero]
      have NFg9 := Lib.hid (fun hk => Nat.lt_irrefl _ (HD.out.lt w7.heap.size hk).2)
      have GDg9 := Lib.hid HD.out.2.size
      have HBLn := Lib.hid (HBL.out.trans (hb.mono HBL.out.size))
      have F2n := Lib.hid (F2.out.below hb F2.out.lt)
      have NEg0_g9 := Lib.hid (Nat.ne_of_lt F2.out.lt)
      have F5n := Lib.hid (F5.out.below hb F5.out.lt)
      have NEg4_g9 := Lib.hid (Nat.ne_of_lt F5.out.lt)
      have HDn := Lib.hid (HD.out.below hb)
      have HEVn := Lib.hid (HEV.out.below (Nat.le_refl _) hb)
      have F10 : Hid (Blk w8 w7.heap.size (Rg.none.cells)) := Lib.hid (by first | exact hA | simpa using hA)
      have GEg9 := Lib.hid HBL.out.size
      clear HBL F2 F5 HD HEV
      have HBL := HBLn
      have F2 := F2n
      have F5 := F5n
      have HD := HDn
      have HEV := HEVn
      clear HBLn F2n F5n HDn HEVn
      clear hA hb hl
      generalize w7.heap.size = g9 at *
      refine store_all (cs := r.cells.toArray) F10.out (by simp only [List.size_toArray, HWN.out.cells, HWR.out.cells]) (by rw [List.size_toArray, HWR.out.cells]; exact info27) (by simpa using Rg.cell_one r) rfl rfl rfl ?_
      intro w11 hD hO hlD
      try simp only [Act.put, List.setIfInBounds_toArray, List.set_cons_succ, List.set_cons_zero]
      have HBLn := Lib.hid (HBL.out.trans (hO.below HBL.out.size fun k hk => by rw [hk]; exact GEg9.out))
      have F2n := Lib.hid (F2.out.only hO (NEg0_g9.out))
      have F5n := Lib.hid (F5.out.only hO (NEg4_g9.out))
      have F10n : Hid (Blk w11 g9 (r.cells)) := Lib.hid (by first | exact hD | simpa using hD)
      have HDn := Lib.hid (HD.out.go1 hO GDg9.out NFg9.out)
      have HEVn := Lib.hid (HEV.out.keep hO GEg9.out HP.out)
      clear HBL F2 F5 F10 HD HEV
      have HBL := HBLn
      have F2 := F2n
      have F5 := F5n
      have F10 := F10n
      have HD := HDn
      have HEV := HEVn
      clear HBLn F2n F5n F10n HDn HEVn
      clear hD hO hlD
      refine takeL (.nilIface) rfl (by go_simp) ?_
      try simp only [Act.put, List.setIfInBounds_toArray, List.set_cons_succ, List.set_cons_zero]
      refine wpList_nil ?_
      go_upto_region 8 with fail
      refine wp_region_lit ?_
      refine takeL (.nilIface) rfl (by go_simp) ?_
      try simp only [Act.put, List.setIfInBounds_toArray, List.set_cons_succ, List.set_cons_zero]
      refine wpList_op rfl fun K hK => ?_
      go_simp
      refine (is_nil 13 false rfl _).mono ?_
      rintro e w12 ⟨rfl, hb⟩
      have HBLn := Lib.hid (HBL.out.trans (hb.mono HBL.out.size))
      have F2n := Lib.hid (F2.out.below hb F2.out.lt)
      have F5n := Lib.hid (F5.out.below hb F5.out.lt)
      have F10n := Lib.hid (F10.out.below hb F10.out.lt)
      have HDn := Lib.hid (HD.out.below hb)
      have HEVn := Lib.hid (HEV.out.below (Nat.le_refl _) hb)
      clear HBL F2 F5 F10 HD HEV
      have HBL := HBLn
      have F2 := F2n
      have F5 := F5n
      have F10 := F10n
      have HD := HDn
      have HEV := HEVn
      clear HBLn F2n F5n F10n HDn HEVn
      clear hb
      refine hK _ _ ?_
      clear hK K
      try simp only [Act.put, List.setIfInBounds_toArray, List.set_cons_succ, List.set_cons_zero]
      refine wpList_nil ?_
      go_upto_region 9 with fail
      refine wp_region_lit ?_
      refine takeL (.int .i64 13) rfl (by go_simp) ?_
      try simp only [Act.put, List.setIfInBounds_toArray, List.set_cons_succ, List.set_cons_zero]
      refine takeL (.bool true) rfl (by go_simp) ?_
      try simp only [Act.put, List.setIfInBounds_toArray, List.set_cons_succ, List.set_cons_zero]
      refine takeL (.bool true) rfl (by go_simp) ?_
      try simp only [Act.put, List.setIfInBounds_toArray, List.set_cons_succ, List.set_cons_zero]
      refine passL rfl ?_
      try simp only [Act.put, List.setIfInBounds_toArray, List.set_cons_succ, List.set_cons_zero]
      refine passL rfl ?_
      try simp only [Act.put, List.setIfInBounds_toArray, List.set_cons_succ, List.set_cons_zero]
      refine passL rfl ?_
      try simp only [Act.put, List.setIfInBounds_toArray, List.set_cons_succ, List.set_cons_zero]
      refine passL rfl ?_
      try simp only [Act.put, List.setIfInBounds_toArray, List.set_cons_succ, List.set_cons_zero]
      refine passL rfl ?_
      try simp only [Act.put, List.setIfInBounds_toArray, List.set_cons_succ, List.set_cons_zero]
      refine takeL (.bool true) rfl (by go_simp) ?_
      try simp only [Act.put, List.setIfInBounds_toArray, List.set_cons_succ, List.set_cons_zero]
      refine wpList_nil ?_
      go_upto_region 10 with fail
      refine wp_region_lit ?_
      refine load27 (cs := r.cells.toArray) (Blk.all F10.out rfl) (by rw [List.size_toArray]; exact HWR.out.cells) rfl rfl ?_
      try simp only [Act.put, List.setIfInBounds_toArray, List.set_cons_succ, List.set_cons_zero]
      refine store_all (cs := r.cells.toArray) F5.out (by simp only [List.size_toArray, HWN.out.cells, HWR.out.cells]) (by rw [List.size_toArray, HWR.out.cells]; exact info27) (by simpa using Rg.cell_one r) rfl rfl rfl ?_
      intro w13 hD hO hlD
      try simp only [Act.put, List.setIfInBounds_toArray, List.set_cons_succ, List.set_cons_zero]
      have HBLn := Lib.hid (HBL.out.trans (hO.below HBL.out.size fun k hk => by rw [hk]; exact GEg4.out))
      have F2n := Lib.hid (F2.out.only hO (NEg0_g4.out))
      have F5n : Hid (Blk w13 g4 (r.cells)) := Lib.hid (by first | exact hD | simpa using hD)
      have F10n := Lib.hid (F10.out.only hO (NEg4_g9.out.symm))
      have HDn := Lib.hid (HD.out.go1 hO GDg4.out NFg4.out)
      have HEVn := Lib.hid (HEV.out.keep hO GEg4.out HP.out)
      clear HBL F2 F5 F10 HD HEV
      have HBL := HBLn
      have F2 := F2n
      have F5 := F5n
      have F10 := F10n
      have HD := HDn
      have HEV := HEVn
      clear HBLn F2n F5n F10n HDn HEVn
      clear hD hO hlD
      refine takeL (.int .i64 0) rfl (by go_simp) ?_
      try simp only [Act.put, List.setIfInBounds_toArray, List.set_cons_succ, List.set_cons_zero]
      refine wpList_nil ?_
      go_wp2_with fail
      go_roundg (2 - (0 + 1))
      case measure => omega
      case rel => exact ⟨1, by omega, by omega, by go_num, rfl, F2.out, F5.out, HBL.out, HD.out, HEV.out⟩
    · have F5 : Hid (Blk wr g4 r.cells) := Lib.hid F5k.out
      have hs : _ = Value.int .i64 0 := HS.out
      clear F5k HS
      subst hs
      go_upto_region 7 with fail
      refine wp_region_lit ?_
      refine takeL (.pointer (some ⟨b, 0, none⟩)) rfl (by go_simp) ?_
      try simp only [Act.put, List.setIfInBounds_toArray, List.set_cons_succ, List.set_cons_zero]
      refine takeL (.int .i64 1) rfl (by go_simp) ?_
      try simp only [Act.put, List.setIfInBounds_toArray, List.set_cons_succ, List.set_cons_zero]
      refine wpList_op rfl fun K hK => ?_
      go_simp
      refine (HR1.out _ HEV.out HD.out).mono ?_
      rintro e w7 ⟨rfl, hb⟩
      have HBLn := Lib.hid (HBL.out.trans (hb.mono HBL.out.size))
      have F2n := Lib.hid (F2.out.below hb F2.out.lt)
      have F5n := Lib.hid (F5.out.below hb F5.out.lt)
      have HDn := Lib.hid (HD.out.below hb)
      have HEVn := Lib.hid (HEV.out.below (Nat.le_refl _) hb)
      clear HBL F2 F5 HD HEV
      have HBL := HBLn
      have F2 := F2n
      have F5 := F5n
      have HD := HDn
      have HEV := HEVn
      clear HBLn F2n F5n HDn HEVn
      clear hb
      refine hK _ _ ?_
      clear hK K
      try simp only [Act.put, List.setIfInBounds_toArray, List.set_cons_succ, List.set_cons_zero]
      refine takeL (.tuple #[.agg q.cells.toArray, .nilIface]) rfl (by go_simp) ?_
      try simp only [Act.put, List.setIfInBounds_toArray, List.set_cons_succ, List.set_cons_zero]
      refine takeL (.agg q.cells.toArray) rfl (by go_simp) ?_
      try simp only [Act.put, List.setIfInBounds_toArray, List.set_cons_succ, List.set_cons_zero]
      refine takeL (.nilIface) rfl (by go_simp) ?_
      try simp only [Act.put, List.setIfInBounds_toArray, List.set_cons_succ, List.set_cons_zero]
      refine alloc_g zero27 rfl ?_
      intro w8 hA hb hl
      try simp only [Act.put, List.setIfInBounds_toArray, List.set_cons_succ, List.set_cons_zero]
      have NFg9 := Lib.hid (fun hk => Nat.lt_irrefl _ (HD.out.lt w7.heap.size hk).2)
      have GDg9 := Lib.hid HD.out.2.size
      have HBLn := Lib.hid (HBL.out.trans (hb.mono HBL.out.size))
      have F2n := Lib.hid (F2.out.below hb F2.out.lt)
      have NEg0_g9 := Lib.hid (Nat.ne_of_lt F2.out.lt)
      have F5n := Lib.hid (F5.out.below hb F5.out.lt)
      have NEg4_g9 := Lib.hid (Nat.ne_of_lt F5.out.lt)
      have HDn := Lib.hid (HD.out.below hb)
      have HEVn := Lib.hid (HEV.out.below (Nat.le_refl _) hb)
      have F10 : Hid (Blk w8 w7.heap.size (Rg.none.cells)) := Lib.hid (by first | exact hA | simpa using hA)
      have GEg9 := Lib.hid HBL.out.size
      clear HBL F2 F5 HD HEV
      have HBL := HBLn
      have F2 := F2n
      have F5 := F5n
      have HD := HDn
      have HEV := HEVn
      clear HBLn F2n F5n HDn HEVn
      clear hA hb hl
      generalize w7.heap.size = g9 at *
      refine store_all (cs := q.cells.toArray) F10.out (by simp only [List.size_toArray, HWN.out.cells, HWQ.out.cells]) (by rw [List.size_toArray, HWQ.out.cells]; exact info27) (by simpa using Rg.cell_one q) rfl rfl rfl ?_
      intro w11 hD hO hlD
      try simp only [Act.put, List.setIfInBounds_toArray, List.set_cons_succ, List.set_cons_zero]
      have HBLn := Lib.hid (HBL.out.trans (hO.below HBL.out.size fun k hk => by rw [hk]; exact GEg9.out))
      have F2n := Lib.hid (F2.out.only hO (NEg0_g9.out))
      have F5n := Lib.hid (F5.out.only hO (NEg4_g9.out))
      have F10n : Hid (Blk w11 g9 (q.cells)) := Lib.hid (by first | exact hD | simpa using hD)
      have HDn := Lib.hid (HD.out.go1 hO GDg9.out NFg9.out)
      have HEVn := Lib.hid (HEV.out.keep hO GEg9.out HP.out)
      clear HBL F2 F5 F10 HD HEV
      have HBL := HBLn
      have F2 := F2n
      have F5 := F5n
      have F10 := F10n
      have HD := HDn
      have HEV := HEVn
      clear HBLn F2n F5n F10n HDn HEVn
      clear hD hO hlD
      refine takeL (.nilIface) rfl (by go_simp) ?_
      try simp only [Act.put, List.setIfInBounds_toArray, List.set_cons_succ, List.set_cons_zero]
      refine wpList_nil ?_
      go_upto_region 8 with fail
      refine wp_region_lit ?_
      refine takeL (.nilIface) rfl (by go_simp) ?_
      try simp only [Act.put, List.setIfInBounds_toArray, List.set_cons_succ, List.set_cons_zero]
      refine wpList_op rfl fun K hK => ?_
      go_simp
      refine (is_nil 13 false rfl _).mono ?_
      rintro e w12 ⟨rfl, hb⟩
      have HBLn := Lib.hid (HBL.out.trans (hb.mono HBL.out.size))
      have F2n := Lib.hid (F2.out.below hb F2.out.lt)
      have F5n := Lib.hid (F5.out.below hb F5.out.lt)
      have F10n := Lib.hid (F10.out.below hb F10.out.lt)
      have HDn := Lib.hid (HD.out.below hb)
      have HEVn := Lib.hid (HEV.out.below (Nat.le_refl _) hb)
      clear HBL F2 F5 F10 HD HEV
      have HBL := HBLn
      have F2 := F2n
      have F5 := F5n
      have F10 := F10n
      have HD := HDn
      have HEV := HEVn
      clear HBLn F2n F5n F10n HDn HEVn
      clear hb
      refine hK _ _ ?_
      clear hK K
      try simp only [Act.put, List.setIfInBounds_toArray, List.set_cons_succ, List.set_cons_zero]
      refine wpList_nil ?_
      go_upto_region 9 with fail
      refine wp_region_lit ?_
      refine takeL (.int .i64 0) rfl (by go_simp) ?_
      try simp only [Act.put, List.setIfInBounds_toArray, List.set_cons_succ, List.set_cons_zero]
      refine takeL (.bool false) rfl (by go_simp) ?_
      try simp only [Act.put, List.setIfInBounds_toArray, List.set_cons_succ, List.set_cons_zero]
      refine takeL (.bool false) rfl (by go_simp) ?_
      try simp only [Act.put, List.setIfInBounds_toArray, List.set_cons_succ, List.set_cons_zero]
      refine takeL (.pointer (some ⟨g9, 0, none⟩)) rfl (by go_simp) ?_
      try simp only [Act.put, List.setIfInBounds_toArray, List.set_cons_succ, List.set_cons_zero]
      refine takeL (.int .u32 q.gen) rfl (by (have hc := F10.out.cell (i := 0) (v := .int .u32 q.gen) rfl; go_simp)) ?_
      try simp only [Act.put, List.setIfInBounds_toArray, List.set_cons_succ, List.set_cons_zero]
      refine takeL (.pointer (some ⟨g4, 0, none⟩)) rfl (by go_simp) ?_
      try simp only [Act.put, List.setIfInBounds_toArray, List.set_cons_succ, List.set_cons_zero]
      refine takeL (.int .u32 r.gen) rfl (by (have hc := F5.out.cell (i := 0) (v := .int .u32 r.gen) rfl; go_simp)) ?_
      try simp only [Act.put, List.setIfInBounds_toArray, List.set_cons_succ, List.set_cons_zero]
      refine takeL (.bool false) rfl (by go_simp; simp only [HCMP.out, decide_false]) ?_
      try simp only [Act.put, List.setIfInBounds_toArray, List.set_cons_succ, List.set_cons_zero]
      refine takeL (.bool false) rfl (by go_simp) ?_
      try simp only [Act.put, List.setIfInBounds_toArray, List.set_cons_succ, List.set_cons_zero]
      refine wpList_nil ?_
      go_wp2_with fail
      go_roundg (2 - (1 + 1))
      case measure => omega
      case rel => exact ⟨2, by omega, by omega, by go_num, rfl, F2.out, F5.out, HBL.out, HD.out, HEV.out⟩
    · have F5 : Hid (Blk wr g4 r.cells) := Lib.hid F5k.out
      have hs : _ = Value.int .i64 0 := HS.out
      clear F5k HS
      subst hs
      go_upto_region 12 with fail
      refine wp_region_lit ?_
      refine load27 (cs := r.cells.toArray) (Blk.all F5.out rfl) (by rw [List.size_toArray]; exact HWR.out.cells) rfl rfl ?_
      try simp only [Act.put, List.setIfInBounds_toArray, List.set_cons_succ, List.set_cons_zero]
      refine takeL (.int .i64 0) rfl (by go_simp) ?_
      try simp only [Act.put, List.setIfInBounds_toArray, List.set_cons_succ, List.set_cons_zero]
      refine store_all (cs := r.cells.toArray) F2.out (by simp only [List.size_toArray, HWN.out.cells, HWR.out.cells]) (by rw [List.size_toArray, HWR.out.cells]; exact info27) (by simpa using Rg.cell_one r) rfl rfl rfl ?_
      intro w7 hD hO hlD
      try simp only [Act.put, List.setIfInBounds_toArray, List.set_cons_succ, List.set_cons_zero]
      have HBLn := Lib.hid (HBL.out.trans (hO.below HBL.out.size fun k hk => by rw [hk]; exact GEg0.out))
      have F2n : Hid (Blk w7 w.heap.size (r.cells)) := Lib.hid (by first | exact hD | simpa using hD)
      have F5n := Lib.hid (F5.out.only hO (NEg0_g4.out.symm))
      have HDn := Lib.hid (HD.out.go1 hO GDg0.out NFg0.out)
      have HEVn := Lib.hid (HEV.out.keep hO GEg0.out HP.out)
      clear HBL F2 F5 HD HEV
      have HBL := HBLn
      have F2 := F2n
      have F5 := F5n
      have HD := HDn
      have HEV := HEVn
      clear HBLn F2n F5n HDn HEVn
      clear hD hO hlD
      refine takeL (.int .i64 0) rfl (by go_simp) ?_
      try simp only [Act.put, List.setIfInBounds_toArray, List.set_cons_succ, List.set_cons_zero]
      refine wpList_nil ?_
      go_wp2_with fail
      exact bodyPost_ret (v := .tuple #[.agg r.cells.toArray, .int .i64 0]) (results_cell_tmp rfl _ _ w.heap.size 0 _ _ _ rfl rfl Tryd.underlying27 rfl (by rw [List.size_toArray, HWR.out.cells]; exact info27) (Blk.all F2.out rfl)) rfl ⟨rfl, HBL.out⟩

/-- The one of the greater Gen, of what the two places tell. -/
def pick : Option Rg → Option Rg → Option Rg
  | none, q => q
  | some r, none => some r
  | some r, some q => if r.gen < q.gen then some q else some r
def newestOf (len : Int) (x y : List Int) : Option Rg := pick (regAt len 0 x) (regAt len 1 y)
def best (q : Option Rg) : Rg := q.getD Rg.none
def bestE (q : Option Rg) : Int := if q.isSome then 0 else 13
theorem regAt_wf {len n : Int} {x : List Int} (hx : Sc2 x) {r : Rg} (h : regAt len n x = some r) : r.Wf := by
  unfold regAt at h
  split at h
  · cases h
    exact readOf_wf hx
  · cases h
/-- What a device's first four sectors read as. -/
structure Four (d : De.D) (x y : List Int) : Prop where
  sx : Sc2 x
  sy : Sc2 y
  r0 : d.read 0 = (u8s (x.take 64)).toArray
  r1 : d.read 1 = (u8s (x.drop 64)).toArray
  r2 : d.read 2 = (u8s (y.take 64)).toArray
  r3 : d.read 3 = (u8s (y.drop 64)).toArray
theorem newest_any (w : World) (hev : ErrVar w) {W0 : World} {b : Nat} {F : Nat → Prop} {d : De.D} (h : De.Dv W0 w b F d) (hLn : d.L.length ≤ 1000000) {x y : List Int} (hf : Four d x y) : Calls Tryd.prog 5 #[.pointer (some ⟨b, 0, none⟩)] w fun e w' => e = .returned (.tuple #[.agg (best (newestOf d.S.length x y)).cells.toArray, .int .i64 (bestE (newestOf d.S.length x y))]) ∧ Below w.heap.size w w' := by
  have h0 : ∀ w', ErrVar w' → De.Dv W0 w' b F d → Calls Tryd.prog 8 #[.pointer (some ⟨b, 0, none⟩), .int .i64 0] w' (fun e w2 => Tells (regAt d.S.length 0 x) e w' w2) := fun w' h1 h2 =>
    regionAt_any (x.take 64) (x.drop 64) x (by simp [hf.sx.length]) (by simp [hf.sx.length]) (List.take_append_drop _ _) hf.sx 0 (.inl rfl) w' h1 h2 hLn hf.r0 hf.r1
  have h1 : ∀ w', ErrVar w' → De.Dv W0 w' b F d → Calls Tryd.prog 8 #[.pointer (some ⟨b, 0, none⟩), .int .i64 1] w' (fun e w2 => Tells (regAt d.S.length 1 y) e w' w2) := fun w' h1 h2 =>
    regionAt_any (y.take 64) (y.drop 64) y (by simp [hf.sy.length]) (by simp [hf.sy.length]) (List.take_append_drop _ _) hf.sy 1 (.inr rfl) w' h1 h2 hLn hf.r2 hf.r3
  have g0 := fun r => regAt_wf (len := d.S.length) (n := 0) hf.sx (r := r)
  have g1 := fun r => regAt_wf (len := d.S.length) (n := 1) hf.sy (r := r)
  unfold newestOf
  generalize regAt d.S.length 0 x = p at *
  generalize regAt d.S.length 1 y = q at *
  cases p with
  | none => cases q with
    | none => exact newest_nn w hev h h0 h1
    | some q => exact newest_ns q (g1 q rfl) w hev h h0 h1
  | some r => cases q with
    | none => exact newest_sn r (g0 r rfl) w hev h h0 h1
    | some q =>
      by_cases hc : r.gen < q.gen
      · have := newest_up r (g0 r rfl) q (g1 q rfl) hc w hev h h0 h1
        simp only [pick, if_pos hc]
        exact this
      · have := newest_down r (g0 r rfl) q (g1 q rfl) hc w hev h h0 h1
        simp only [pick, if_neg hc]
        exact this

end Go.Proofs.YtoiekieddkadmaaDoor
