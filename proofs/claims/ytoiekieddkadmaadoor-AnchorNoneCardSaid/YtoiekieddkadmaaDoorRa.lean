/- What a device says at the place of one of the two regions. -/
import Derived.Test.YtoiekieddkadmaaDoorAn
namespace Go.Proofs.YtoiekieddkadmaaDoor
set_option linter.unusedSimpArgs false
set_option linter.unusedVariables false
open Go.RowKit

theorem Only.into {S : Nat → Prop} {a w w' : World} {g : Nat} (h : Only S a w) (ho : Only (fun k => k = g) w w') (hg : a.heap.size ≤ g) : Only S a w' :=
  ⟨ho.os.trans h.os, ho.tape.trans h.tape, ho.output.trans h.output, Nat.le_trans h.size ho.size, fun i hi hs => (ho.block i (Nat.lt_of_lt_of_le hi h.size) (by omega)).trans (h.block i hi hs)⟩
theorem Only.after {S T : Nat → Prop} {a w w' : World} (h : Only S a w) (ho : Only T w w') (hf : ∀ k, T k → S k ∨ a.heap.size ≤ k) : Only S a w' :=
  ⟨ho.os.trans h.os, ho.tape.trans h.tape, ho.output.trans h.output, Nat.le_trans h.size ho.size, fun i hi hs => (ho.block i (Nat.lt_of_lt_of_le hi h.size) fun ht => (hf i ht).elim hs fun h => Nat.lt_irrefl _ (Nat.lt_of_lt_of_le hi h)).trans (h.block i hi hs)⟩
theorem Only.foot {S T U : Nat → Prop} {A n : Nat} (h : ∀ k, T k → S k ∨ A ≤ k) (hf : ∀ k, U k → T k ∨ n ≤ k) (hn : A ≤ n) : ∀ k, U k → S k ∨ A ≤ k := fun k hk => (hf k hk).elim (h k) fun h => .inr (Nat.le_trans hn h)
theorem ErrVar.after {w w' : World} {S : Nat → Prop} (h : ErrVar w) (ho : Only S w w') (h0 : ¬ S 0) : ErrVar w' := by
  have hl := h.lt
  unfold ErrVar at h ⊢
  rw [World.cell?_of_block (w := w) (ho.block 0 hl h0)]
  exact h
theorem lay_a {a : List Int} (ha : a.length = 64) : (splice (u8s (zeros 128)) 0 (u8s a).toArray).toList = u8s (a ++ zeros 64) := by
  simp [splice, zeros, ha]
theorem lay_c {a c x : List Int} (ha : a.length = 64) (hc : c.length = 64) (hx : a ++ c = x) : (splice (u8s (a ++ zeros 64)) 64 (u8s c).toArray).toList = u8s x := by
  subst hx
  simp [splice, zeros, ha, hc]
def fillR (a x : List Int) (k : Nat) : List Int := if k = 0 then zeros 128 else if k = 1 then a ++ zeros 64 else x
/-- Region n of what the two sectors say, on a device of so many sectors. -/
def regAt (len n : Int) (x : List Int) : Option Rg := if isReg x = true ∧ (readOf x).gen % 2 = n ∧ (readOf x).g.tot ≤ len then some (readOf x) else none


set_option maxRecDepth 100000 in
set_option maxHeartbeats 4000000 in
theorem regionAt_bad (a c x : List Int) (ha : a.length = 64) (hc : c.length = 64) (hxe : a ++ c = x) (hx : Sc2 x) (n : Int) (hn : n = 0 ∨ n = 1) (hq : isReg x = false) (w : World) (hev : ErrVar w) {W0 : World} {b : Nat} {F : Nat → Prop} {d : De.D} (h : De.Dv W0 w b F d)  (hLn : d.L.length ≤ 1000000) (hr0 : d.read (n * 2) = (u8s a).toArray) (hr1 : d.read (n * 2 + 1) = (u8s c).toArray) : Calls Tryd.prog 8 #[.pointer (some ⟨b, 0, none⟩), .int .i64 n] w fun e w' => ∃ T d t ts, e = .returned (.tuple #[.agg Rg.none.cells.toArray, .iface T d]) ∧ Chain w' 13 (t :: ts) (.iface T d) ∧ Below w.heap.size w w' := by
  have HZ128 := Lib.hid (zeros_length 128)
  have HZ64 := Lib.hid (zeros_length 64)
  have HWN := Lib.hid none_wf
  have HLA := Lib.hid ha
  have HLC := Lib.hid hc
  have HX := Lib.hid hx
  have HXL := Lib.hid hx.length
  have HWR := Lib.hid (readOf_wf hx)
  have HA := Lib.hid (lay_a ha)
  have HC := Lib.hid (lay_c ha hc hxe)
  have HF1 : Hid ((a ++ zeros 64).length = 128) := Lib.hid (by simp [ha, zeros])
  have HM : Hid (IntKind.i64.wrap (n * 2) = n * 2) := Lib.hid (wrap64 (by omega) (by omega))
  have HM1 : Hid (IntKind.i64.wrap (n * 2 + 1) = n * 2 + 1) := Lib.hid (wrap64 (by omega) (by omega))
  have HBL : Hid (Below w.heap.size w w) := Lib.hid (Below.refl _ _)
  have HEV := Lib.hid hev
  have HP := Lib.hid hev.lt
  have HD := Lib.hid h
  have HLN := Lib.hid hLn
  have HR0 := Lib.hid hr0
  have HR1 := Lib.hid hr1
  have HQ := Lib.hid hq
  clear ha hc hxe hx hn hev h hLn hr0 hr1 hq
  go_enter Tryd.func8, Tryd.ntmps8
  go_upto_region 0 with fail
  refine wp_region_lit ?_
  refine alloc_g zero27 rfl ?_
  intro w1 hA hb hl
  try simp only [Act.put, List.setIfInBounds_toArray, List.set_cons_succ, List.set_cons_zero]
  have NFg0 := Lib.hid (fun hk => Nat.lt_irrefl _ (HD.out.lt w.heap.size hk).2)
  have GDg0 := Lib.hid HD.out.2.size
  have HBLn := Lib.hid (HBL.out.trans (hb.mono HBL.out.size))
  have HDn := Lib.hid (HD.out.below hb)
  have HEVn := Lib.hid (HEV.out.below (Nat.le_refl _) hb)
  have F2 : Hid (Blk w1 w.heap.size (Rg.none.cells)) := Lib.hid (by first | exact hA | simpa using hA)
  have GEg0 := Lib.hid HBL.out.size
  clear HBL HD HEV
  have HBL := HBLn
  have HD := HDn
  have HEV := HEVn
  clear HBLn HDn HEVn
  clear hA hb hl
  refine takeL (Value.nilIface) rfl (by go_simp) ?_
  try simp only [Act.put, List.setIfInBounds_toArray, List.set_cons_succ, List.set_cons_zero]
  refine wpList_nil ?_
  go_upto_region 1 with fail
  refine wp_region_lit ?_
  refine alloc_g zero50 rfl ?_
  intro w3 hA hb hl
  try simp only [Act.put, List.setIfInBounds_toArray, List.set_cons_succ, List.set_cons_zero]
  have NFg4 := Lib.hid (fun hk => Nat.lt_irrefl _ (HD.out.lt w1.heap.size hk).2)
  have GDg4 := Lib.hid HD.out.2.size
  have HBLn := Lib.hid (HBL.out.trans (hb.mono HBL.out.size))
  have F2n := Lib.hid (F2.out.below hb F2.out.lt)
  have NEg0_g4 := Lib.hid (Nat.ne_of_lt F2.out.lt)
  have HDn := Lib.hid (HD.out.below hb)
  have HEVn := Lib.hid (HEV.out.below (Nat.le_refl _) hb)
  have F5 : Hid (Blk w3 w1.heap.size (u8s (zeros 128))) := Lib.hid (by first | exact hA | simpa using hA)
  have GEg4 := Lib.hid HBL.out.size
  clear HBL F2 HD HEV
  have HBL := HBLn
  have F2 := F2n
  have HD := HDn
  have HEV := HEVn
  clear HBLn F2n HDn HEVn
  clear hA hb hl
  generalize w1.heap.size = g4 at *
  refine wpList_nil ?_
  go_upto_region 2 with fail
  refine wp_region_lit ?_
  refine takeL (.int .i64 0) rfl (by go_simp) ?_
  try simp only [Act.put, List.setIfInBounds_toArray, List.set_cons_succ, List.set_cons_zero]
  refine wpList_nil ?_
  go_wp2_with fail
  go_loopg [10] 2 (fun q i wr => ∃ k : Nat, 2 - k ≤ q ∧ k ≤ 2 ∧ i = .int .i64 k ∧ Blk wr w.heap.size Rg.none.cells ∧ Blk wr g4 (u8s (fillR a x k)) ∧ Below w.heap.size w wr ∧ De.Dv W0 wr b F d ∧ ErrVar wr)
  case atStart => exact ⟨0, by omega, by omega, rfl, F2.out, F5.out, HBL.out, HD.out, HEV.out⟩
  case round =>
    obtain ⟨k, hq, hk, rfl, h0, h1, h2, h3, h4⟩ := hrel
    clear F2 F5 HBL HD HEV
    have F2 := Lib.hid h0
    have F5k := Lib.hid h1
    have HBL := Lib.hid h2
    have HD := Lib.hid h3
    have HEV := Lib.hid h4
    clear h0 h1 h2 h3 h4
    rcases (show k = 0 ∨ k = 1 ∨ k = 2 by omega) with rfl | rfl | rfl
    · have F5 : Hid (Blk wr g4 (u8s (zeros 128))) := Lib.hid F5k.out
      clear F5k
      go_upto_region 5 with fail
      refine wp_region_lit ?_
      refine takeL (.int .i64 0) rfl (by go_simp) ?_
      try simp only [Act.put, List.setIfInBounds_toArray, List.set_cons_succ, List.set_cons_zero]
      refine takeL (.pointer (some ⟨b, 0, none⟩)) rfl (by go_simp) ?_
      try simp only [Act.put, List.setIfInBounds_toArray, List.set_cons_succ, List.set_cons_zero]
      refine takeL (.int .i64 n) rfl (by go_simp) ?_
      try simp only [Act.put, List.setIfInBounds_toArray, List.set_cons_succ, List.set_cons_zero]
      refine takeL (.int .i64 (n * 2)) rfl (by go_simp; simp [HM.out]) ?_
      try simp only [Act.put, List.setIfInBounds_toArray, List.set_cons_succ, List.set_cons_zero]
      refine takeL (.int .i64 0) rfl (by go_simp) ?_
      try simp only [Act.put, List.setIfInBounds_toArray, List.set_cons_succ, List.set_cons_zero]
      refine takeL (.int .i64 (n * 2)) rfl (by go_simp; simp [HM.out]) ?_
      try simp only [Act.put, List.setIfInBounds_toArray, List.set_cons_succ, List.set_cons_zero]
      refine wpList_op rfl fun K hK => ?_
      go_simp
      refine (De.dv_read HD.out HLN.out (n * 2)).mono ?_
      rintro e w6 ⟨rfl, hb⟩
      rw [HR0.out]
      have HBLn := Lib.hid (HBL.out.trans (hb.mono HBL.out.size))
      have F2n := Lib.hid (F2.out.below hb F2.out.lt)
      have F5n := Lib.hid (F5.out.below hb F5.out.lt)
      have HDn := Lib.hid (HD.out.below hb)
      have HEVn := Lib.hid (HEV.out.below (Nat.le_refl _) hb)
      clear HBL F2 F5 HD HEV
      have HBL := HBLn
      have F2 := F2n
      have F5 := F5n
      have HD := HDn
      have HEV := HEVn
      clear HBLn F2n F5n HDn HEVn
      clear hb
      refine hK _ _ ?_
      clear hK K
      try simp only [Act.put, List.setIfInBounds_toArray, List.set_cons_succ, List.set_cons_zero]
      refine takeL (.tuple #[.agg (u8s a).toArray, .int .i64 (d.readE (n * 2))]) rfl (by go_simp) ?_
      try simp only [Act.put, List.setIfInBounds_toArray, List.set_cons_succ, List.set_cons_zero]
      refine takeL (.agg (u8s a).toArray) rfl (by go_simp) ?_
      try simp only [Act.put, List.setIfInBounds_toArray, List.set_cons_succ, List.set_cons_zero]
      refine takeL (.int .i64 (d.readE (n * 2))) rfl (by go_simp) ?_
      try simp only [Act.put, List.setIfInBounds_toArray, List.set_cons_succ, List.set_cons_zero]
      refine takeL (.pointer (some ⟨g4, 0, none⟩)) rfl (by go_simp) ?_
      try simp only [Act.put, List.setIfInBounds_toArray, List.set_cons_succ, List.set_cons_zero]
      refine store_g (off := 0) (cs := (u8s a).toArray) F5.out (by rw [u8s_size, HLA.out]; exact info49) (by rw [u8s_size, HLA.out]; simp [HZ128.out, HLA.out, HZ64.out]) (u8s_one _) rfl rfl rfl ?_
      rw [HA.out]
      intro w7 hD hO hlD
      try simp only [Act.put, List.setIfInBounds_toArray, List.set_cons_succ, List.set_cons_zero]
      have HBLn := Lib.hid (HBL.out.trans (hO.below HBL.out.size fun k hk => by rw [hk]; exact GEg4.out))
      have F2n := Lib.hid (F2.out.only hO (NEg0_g4.out))
      have F5n : Hid (Blk w7 g4 (u8s (a ++ zeros 64))) := Lib.hid hD
      have HDn := Lib.hid (HD.out.go1 hO GDg4.out NFg4.out)
      have HEVn := Lib.hid (HEV.out.keep hO GEg4.out HP.out)
      clear HBL F2 F5 HD HEV
      have HBL := HBLn
      have F2 := F2n
      have F5 := F5n
      have HD := HDn
      have HEV := HEVn
      clear HBLn F2n F5n HDn HEVn
      clear hD hO hlD
      refine wpList_nil ?_
      go_wp2_with fail
      go_roundg (2 - (0 + 1))
      case measure => omega
      case rel => exact ⟨1, by omega, by omega, by go_num, F2.out, F5.out, HBL.out, HD.out, HEV.out⟩
    · have F5 : Hid (Blk wr g4 (u8s (a ++ zeros 64))) := Lib.hid F5k.out
      clear F5k
      go_upto_region 5 with fail
      refine wp_region_lit ?_
      refine takeL (.int .i64 1) rfl (by go_simp) ?_
      try simp only [Act.put, List.setIfInBounds_toArray, List.set_cons_succ, List.set_cons_zero]
      refine takeL (.pointer (some ⟨b, 0, none⟩)) rfl (by go_simp) ?_
      try simp only [Act.put, List.setIfInBounds_toArray, List.set_cons_succ, List.set_cons_zero]
      refine takeL (.int .i64 n) rfl (by go_simp) ?_
      try simp only [Act.put, List.setIfInBounds_toArray, List.set_cons_succ, List.set_cons_zero]
      refine takeL (.int .i64 (n * 2)) rfl (by go_simp; simp [HM.out]) ?_
      try simp only [Act.put, List.setIfInBounds_toArray, List.set_cons_succ, List.set_cons_zero]
      refine takeL (.int .i64 1) rfl (by go_simp) ?_
      try simp only [Act.put, List.setIfInBounds_toArray, List.set_cons_succ, List.set_cons_zero]
      refine takeL (.int .i64 (n * 2 + 1)) rfl (by go_simp; simp [HM1.out]) ?_
      try simp only [Act.put, List.setIfInBounds_toArray, List.set_cons_succ, List.set_cons_zero]
      refine wpList_op rfl fun K hK => ?_
      go_simp
      refine (De.dv_read HD.out HLN.out (n * 2 + 1)).mono ?_
      rintro e w6 ⟨rfl, hb⟩
      rw [HR1.out]
      have HBLn := Lib.hid (HBL.out.trans (hb.mono HBL.out.size))
      have F2n := Lib.hid (F2.out.below hb F2.out.lt)
      have F5n := Lib.hid (F5.out.below hb F5.out.lt)
      have HDn := Lib.hid (HD.out.below hb)
      have HEVn := Lib.hid (HEV.out.below (Nat.le_refl _) hb)
      clear HBL F2 F5 HD HEV
      have HBL := HBLn
      have F2 := F2n
      have F5 := F5n
      have HD := HDn
      have HEV := HEVn
      clear HBLn F2n F5n HDn HEVn
      clear hb
      refine hK _ _ ?_
      clear hK K
      try simp only [Act.put, List.setIfInBounds_toArray, List.set_cons_succ, List.set_cons_zero]
      refine takeL (.tuple #[.agg (u8s c).toArray, .int .i64 (d.readE (n * 2 + 1))]) rfl (by go_simp) ?_
      try simp only [Act.put, List.setIfInBounds_toArray, List.set_cons_succ, List.set_cons_zero]
      refine takeL (.agg (u8s c).toArray) rfl (by go_simp) ?_
      try simp only [Act.put, List.setIfInBounds_toArray, List.set_cons_succ, List.set_cons_zero]
      refine takeL (.int .i64 (d.readE (n * 2 + 1))) rfl (by go_simp) ?_
      try simp only [Act.put, List.setIfInBounds_toArray, List.set_cons_succ, List.set_cons_zero]
      refine takeL (.pointer (some ⟨g4, 64, none⟩)) rfl (by go_simp) ?_
      try simp only [Act.put, List.setIfInBounds_toArray, List.set_cons_succ, List.set_cons_zero]
      refine store_g (off := 64) (cs := (u8s c).toArray) F5.out (by rw [u8s_size, HLC.out]; exact info49) (by rw [u8s_size, HLC.out]; simp [HF1.out, HLA.out, HZ64.out]) (u8s_one _) rfl rfl rfl ?_
      rw [HC.out]
      intro w7 hD hO hlD
      try simp only [Act.put, List.setIfInBounds_toArray, List.set_cons_succ, List.set_cons_zero]
      have HBLn := Lib.hid (HBL.out.trans (hO.below HBL.out.size fun k hk => by rw [hk]; exact GEg4.out))
      have F2n := Lib.hid (F2.out.only hO (NEg0_g4.out))
      have F5n : Hid (Blk w7 g4 (u8s x)) := Lib.hid hD
      have HDn := Lib.hid (HD.out.go1 hO GDg4.out NFg4.out)
      have HEVn := Lib.hid (HEV.out.keep hO GEg4.out HP.out)
      clear HBL F2 F5 HD HEV
      have HBL := HBLn
      have F2 := F2n
      have F5 := F5n
      have HD := HDn
      have HEV := HEVn
      clear HBLn F2n F5n HDn HEVn
      clear hD hO hlD
      refine wpList_nil ?_
      go_wp2_with fail
      go_roundg (2 - (1 + 1))
      case measure => omega
      case rel => exact ⟨2, by omega, by omega, by go_num, F2.out, F5.out, HBL.out, HD.out, HEV.out⟩
    · have F5 : Hid (Blk wr g4 (u8s x)) := Lib.hid F5k.out
      clear F5k
      go_upto_region 7 with fail
      refine wp_region_lit ?_
      refine load50 (cs := (u8s x).toArray) (Blk.all F5.out rfl) (by rw [u8s_size, HXL.out]) rfl rfl ?_
      try simp only [Act.put, List.setIfInBounds_toArray, List.set_cons_succ, List.set_cons_zero]
      refine wpList_op rfl fun K hK => ?_
      go_simp
      refine (decode_no HX.out HQ.out _ HEV.out).mono ?_
      rintro e w6 ⟨rfl, hb⟩
      have HBLn := Lib.hid (HBL.out.trans (hb.mono HBL.out.size))
      have F2n := Lib.hid (F2.out.below hb F2.out.lt)
      have F5n := Lib.hid (F5.out.below hb F5.out.lt)
      have HDn := Lib.hid (HD.out.below hb)
      have HEVn := Lib.hid (HEV.out.below (Nat.le_refl _) hb)
      clear HBL F2 F5 HD HEV
      have HBL := HBLn
      have F2 := F2n
      have F5 := F5n
      have HD := HDn
      have HEV := HEVn
      clear HBLn F2n F5n HDn HEVn
      clear hb
      refine hK _ _ ?_
      clear hK K
      try simp only [Act.put, List.setIfInBounds_toArray, List.set_cons_succ, List.set_cons_zero]
      refine takeL (.tuple #[.agg Rg.none.cells.toArray, .int .i64 11]) rfl (by go_simp) ?_
      try simp only [Act.put, List.setIfInBounds_toArray, List.set_cons_succ, List.set_cons_zero]
      refine takeL (.agg Rg.none.cells.toArray) rfl (by go_simp) ?_
      try simp only [Act.put, List.setIfInBounds_toArray, List.set_cons_succ, List.set_cons_zero]
      refine takeL (.int .i64 11) rfl (by go_simp) ?_
      try simp only [Act.put, List.setIfInBounds_toArray, List.set_cons_succ, List.set_cons_zero]
      refine alloc_g zero27 rfl ?_
      intro w7 hA hb hl
      try simp only [Act.put, List.setIfInBounds_toArray, List.set_cons_succ, List.set_cons_zero]
      have NFg8 := Lib.hid (fun hk => Nat.lt_irrefl _ (HD.out.lt w6.heap.size hk).2)
      have GDg8 := Lib.hid HD.out.2.size
      have HBLn := Lib.hid (HBL.out.trans (hb.mono HBL.out.size))
      have F2n := Lib.hid (F2.out.below hb F2.out.lt)
      have NEg0_g8 := Lib.hid (Nat.ne_of_lt F2.out.lt)
      have F5n := Lib.hid (F5.out.below hb F5.out.lt)
      have NEg4_g8 := Lib.hid (Nat.ne_of_lt F5.out.lt)
      have HDn := Lib.hid (HD.out.below hb)
      have HEVn := Lib.hid (HEV.out.below (Nat.le_refl _) hb)
      have F9 : Hid (Blk w7 w6.heap.size (Rg.none.cells)) := Lib.hid (by first | exact hA | simpa using hA)
      have GEg8 := Lib.hid HBL.out.size
      clear HBL F2 F5 HD HEV
      have HBL := HBLn
      have F2 := F2n
      have F5 := F5n
      have HD := HDn
      have HEV := HEVn
      clear HBLn F2n F5n HDn HEVn
      clear hA hb hl
      generalize w6.heap.size = g8 at *
      refine store_all (cs := Rg.none.cells.toArray) F9.out (by simp only [List.size_toArray, HWN.out.cells, HWN.out.cells]) (by rw [List.size_toArray, HWN.out.cells]; exact info27) (by simpa using Rg.cell_one Rg.none) rfl rfl rfl ?_
      intro w10 hD hO hlD
      try simp only [Act.put, List.setIfInBounds_toArray, List.set_cons_succ, List.set_cons_zero]
      have HBLn := Lib.hid (HBL.out.trans (hO.below HBL.out.size fun k hk => by rw [hk]; exact GEg8.out))
      have F2n := Lib.hid (F2.out.only hO (NEg0_g8.out))
      have F5n := Lib.hid (F5.out.only hO (NEg4_g8.out))
      have F9n : Hid (Blk w10 g8 (Rg.none.cells)) := Lib.hid (by first | exact hD | simpa using hD)
      have HDn := Lib.hid (HD.out.go1 hO GDg8.out NFg8.out)
      have HEVn := Lib.hid (HEV.out.keep hO GEg8.out HP.out)
      clear HBL F2 F5 F9 HD HEV
      have HBL := HBLn
      have F2 := F2n
      have F5 := F5n
      have F9 := F9n
      have HD := HDn
      have HEV := HEVn
      clear HBLn F2n F5n F9n HDn HEVn
      clear hD hO hlD
      refine takeL (.int .i64 11) rfl (by go_simp) ?_
      try simp only [Act.put, List.setIfInBounds_toArray, List.set_cons_succ, List.set_cons_zero]
      refine wpList_nil ?_
      go_upto_region 8 with fail
      refine wp_region_lit ?_
      refine takeL (.int .i64 11) rfl (by go_simp) ?_
      try simp only [Act.put, List.setIfInBounds_toArray, List.set_cons_succ, List.set_cons_zero]
      refine takeL (.bool true) rfl (by go_simp) ?_
      try simp only [Act.put, List.setIfInBounds_toArray, List.set_cons_succ, List.set_cons_zero]
      refine takeL (.bool true) rfl (by go_simp) ?_
      try simp only [Act.put, List.setIfInBounds_toArray, List.set_cons_succ, List.set_cons_zero]
      refine wpList_nil ?_
      go_upto_region 9 with fail
      refine wp_region_lit ?_
      refine build_g (build27 _) rfl ?_
      try simp only [Act.put, List.setIfInBounds_toArray, List.set_cons_succ, List.set_cons_zero]
      refine wpList_op rfl fun K hK => ?_
      go_simp
      refine (new_some 13 _ _ rfl).mono ?_
      rintro e w11 ⟨vE, rfl, hc, hb⟩
      obtain ⟨TE, dE, rfl⟩ := hc.shape
      have HBLn := Lib.hid (HBL.out.trans (hb.mono HBL.out.size))
      have F2n := Lib.hid (F2.out.below hb F2.out.lt)
      have F5n := Lib.hid (F5.out.below hb F5.out.lt)
      have F9n := Lib.hid (F9.out.below hb F9.out.lt)
      have HDn := Lib.hid (HD.out.below hb)
      have HEVn := Lib.hid (HEV.out.below (Nat.le_refl _) hb)
      clear HBL F2 F5 F9 HD HEV
      have HBL := HBLn
      have F2 := F2n
      have F5 := F5n
      have F9 := F9n
      have HD := HDn
      have HEV := HEVn
      clear HBLn F2n F5n F9n HDn HEVn
      have HCH := Lib.hid hc
      clear hc hb
      refine hK _ _ ?_
      clear hK K
      try simp only [Act.put, List.setIfInBounds_toArray, List.set_cons_succ, List.set_cons_zero]
      refine store_all (cs := Rg.none.cells.toArray) F2.out (by simp only [List.size_toArray, HWN.out.cells, HWN.out.cells]) (by rw [List.size_toArray, HWN.out.cells]; exact info27) (by simpa using Rg.cell_one Rg.none) rfl rfl rfl ?_
      intro w12 hD hO hlD
      try simp only [Act.put, List.setIfInBounds_toArray, List.set_cons_succ, List.set_cons_zero]
      have HBLn := Lib.hid (HBL.out.trans (hO.below HBL.out.size fun k hk => by rw [hk]; exact GEg0.out))
      have F2n : Hid (Blk w12 w.heap.size (Rg.none.cells)) := Lib.hid (by first | exact hD | simpa using hD)
      have F5n := Lib.hid (F5.out.only hO (NEg0_g4.out.symm))
      have F9n := Lib.hid (F9.out.only hO (NEg0_g8.out.symm))
      have HDn := Lib.hid (HD.out.go1 hO GDg0.out NFg0.out)
      have HEVn := Lib.hid (HEV.out.keep hO GEg0.out HP.out)
      have HCHn := Lib.hid (HCH.out.keep hO (Blk.noStr F2.out (Rg.noStr _)))
      clear HBL F2 F5 F9 HD HEV HCH
      have HBL := HBLn
      have F2 := F2n
      have F5 := F5n
      have F9 := F9n
      have HD := HDn
      have HEV := HEVn
      have HCH := HCHn
      clear HBLn F2n F5n F9n HDn HEVn HCHn
      clear hD hO hlD
      refine takeL (.iface TE dE) rfl (by go_simp) ?_
      try simp only [Act.put, List.setIfInBounds_toArray, List.set_cons_succ, List.set_cons_zero]
      refine wpList_nil ?_
      go_wp2_with fail
      exact bodyPost_ret (v := .tuple #[.agg Rg.none.cells.toArray, .iface TE dE]) (results_cell_tmp rfl _ _ w.heap.size 0 _ _ _ rfl rfl Tryd.underlying27 rfl (by rw [List.size_toArray, HWN.out.cells]; exact info27) (Blk.all F2.out rfl)) rfl ⟨_, _, _, _, rfl, HCH.out, HBL.out⟩

set_option maxRecDepth 100000 in
set_option maxHeartbeats 4000000 in
theorem regionAt_other (a c x : List Int) (ha : a.length = 64) (hc : c.length = 64) (hxe : a ++ c = x) (hx : Sc2 x) (n : Int) (hn : n = 0 ∨ n = 1) (hq : isReg x = true) (hne : (readOf x).gen % 2 ≠ n) (w : World) (hev : ErrVar w) {W0 : World} {b : Nat} {F : Nat → Prop} {d : De.D} (h : De.Dv W0 w b F d)  (hLn : d.L.length ≤ 1000000) (hr0 : d.read (n * 2) = (u8s a).toArray) (hr1 : d.read (n * 2 + 1) = (u8s c).toArray) : Calls Tryd.prog 8 #[.pointer (some ⟨b, 0, none⟩), .int .i64 n] w fun e w' => ∃ T d t ts, e = .returned (.tuple #[.agg Rg.none.cells.toArray, .iface T d]) ∧ Chain w' 13 (t :: ts) (.iface T d) ∧ Below w.heap.size w w' := by
  have HZ128 := Lib.hid (zeros_length 128)
  have HZ64 := Lib.hid (zeros_length 64)
  have HWN := Lib.hid none_wf
  have HLA := Lib.hid ha
  have HLC := Lib.hid hc
  have HX := Lib.hid hx
  have HXL := Lib.hid hx.length
  have HWR := Lib.hid (readOf_wf hx)
  have HA := Lib.hid (lay_a ha)
  have HC := Lib.hid (lay_c ha hc hxe)
  have HF1 : Hid ((a ++ zeros 64).length = 128) := Lib.hid (by simp [ha, zeros])
  have HM : Hid (IntKind.i64.wrap (n * 2) = n * 2) := Lib.hid (wrap64 (by omega) (by omega))
  have HM1 : Hid (IntKind.i64.wrap (n * 2 + 1) = n * 2 + 1) := Lib.hid (wrap64 (by omega) (by omega))
  have HBL : Hid (Below w.heap.size w w) := Lib.hid (Below.refl _ _)
  have HEV := Lib.hid hev
  have HP := Lib.hid hev.lt
  have HD := Lib.hid h
  have HLN := Lib.hid hLn
  have HR0 := Lib.hid hr0
  have HR1 := Lib.hid hr1
  have HQ := Lib.hid hq
  have HNE : Hid (¬ (readOf x).gen % 2 = n) := Lib.hid hne
  clear ha hc hxe hx hn hev h hLn hr0 hr1 hq hne
  go_enter Tryd.func8, Tryd.ntmps8
  go_upto_region 0 with fail
  refine wp_region_lit ?_
  refine alloc_g zero27 rfl ?_
  intro w1 hA hb hl
  try simp only [Act.put, List.setIfInBounds_toArray, List.set_cons_succ, List.set_cons_zero]
  have NFg0 := Lib.hid (fun hk => Nat.lt_irrefl _ (HD.out.lt w.heap.size hk).2)
  have GDg0 := Lib.hid HD.out.2.size
  have HBLn := Lib.hid (HBL.out.trans (hb.mono HBL.out.size))
  have HDn := Lib.hid (HD.out.below hb)
  have HEVn := Lib.hid (HEV.out.below (Nat.le_refl _) hb)
  have F2 : Hid (Blk w1 w.heap.size (Rg.none.cells)) := Lib.hid (by first | exact hA | simpa using hA)
  have GEg0 := Lib.hid HBL.out.size
  clear HBL HD HEV
  have HBL := HBLn
  have HD := HDn
  have HEV := HEVn
  clear HBLn HDn HEVn
  clear hA hb hl
  refine takeL (Value.nilIface) rfl (by go_simp) ?_
  try simp only [Act.put, List.setIfInBounds_toArray, List.set_cons_succ, List.set_cons_zero]
  refine wpList_nil ?_
  go_upto_region 1 with fail
  refine wp_region_lit ?_
  refine alloc_g zero50 rfl ?_
  intro w3 hA hb hl
  try simp only [Act.put, List.setIfInBounds_toArray, List.set_cons_succ, List.set_cons_zero]
  have NFg4 := Lib.hid (fun hk => Nat.lt_irrefl _ (HD.out.lt w1.heap.size hk).2)
  have GDg4 := Lib.hid HD.out.2.size
  have HBLn := Lib.hid (HBL.out.trans (hb.mono HBL.out.size))
  have F2n := Lib.hid (F2.out.below hb F2.out.lt)
  have NEg0_g4 := Lib.hid (Nat.ne_of_lt F2.out.lt)
  have HDn := Lib.hid (HD.out.below hb)
  have HEVn := Lib.hid (HEV.out.below (Nat.le_refl _) hb)
  have F5 : Hid (Blk w3 w1.heap.size (u8s (zeros 128))) := Lib.hid (by first | exact hA | simpa using hA)
  have GEg4 := Lib.hid HBL.out.size
  clear HBL F2 HD HEV
  have HBL := HBLn
  have F2 := F2n
  have HD := HDn
  have HEV := HEVn
  clear HBLn F2n HDn HEVn
  clear hA hb hl
  generalize w1.heap.size = g4 at *
  refine wpList_nil ?_
  go_upto_region 2 with fail
  refine wp_region_lit ?_
  refine takeL (.int .i64 0) rfl (by go_simp) ?_
  try simp only [Act.put, List.setIfInBounds_toArray, List.set_cons_succ, List.set_cons_zero]
  refine wpList_nil ?_
  go_wp2_with fail
  go_loopg [10] 2 (fun q i wr => ∃ k : Nat, 2 - k ≤ q ∧ k ≤ 2 ∧ i = .int .i64 k ∧ Blk wr w.heap.size Rg.none.cells ∧ Blk wr g4 (u8s (fillR a x k)) ∧ Below w.heap.size w wr ∧ De.Dv W0 wr b F d ∧ ErrVar wr)
  case atStart => exact ⟨0, by omega, by omega, rfl, F2.out, F5.out, HBL.out, HD.out, HEV.out⟩
  case round =>
    obtain ⟨k, hq, hk, rfl, h0, h1, h2, h3, h4⟩ := hrel
    clear F2 F5 HBL HD HEV
    have F2 := Lib.hid h0
    have F5k := Lib.hid h1
    have HBL := Lib.hid h2
    have HD := Lib.hid h3
    have HEV := Lib.hid h4
    clear h0 h1 h2 h3 h4
    rcases (show k = 0 ∨ k = 1 ∨ k = 2 by omega) with rfl | rfl | rfl
    · have F5 : Hid (Blk wr g4 (u8s (zeros 128))) := Lib.hid F5k.out
      clear F5k
      go_upto_region 5 with fail
      refine wp_region_lit ?_
      refine takeL (.int .i64 0) rfl (by go_simp) ?_
      try simp only [Act.put, List.setIfInBounds_toArray, List.set_cons_succ, List.set_cons_zero]
      refine takeL (.pointer (some ⟨b, 0, none⟩)) rfl (by go_simp) ?_
      try simp only [Act.put, List.setIfInBounds_toArray, List.set_cons_succ, List.set_cons_zero]
      refine takeL (.int .i64 n) rfl (by go_simp) ?_
      try simp only [Act.put, List.setIfInBounds_toArray, List.set_cons_succ, List.set_cons_zero]
      refine takeL (.int .i64 (n * 2)) rfl (by go_simp; simp [HM.out]) ?_
      try simp only [Act.put, List.setIfInBounds_toArray, List.set_cons_succ, List.set_cons_zero]
      refine takeL (.int .i64 0) rfl (by go_simp) ?_
      try simp only [Act.put, List.setIfInBounds_toArray, List.set_cons_succ, List.set_cons_zero]
      refine takeL (.int .i64 (n * 2)) rfl (by go_simp; simp [HM.out]) ?_
      try simp only [Act.put, List.setIfInBounds_toArray, List.set_cons_succ, List.set_cons_zero]
      refine wpList_op rfl fun K hK => ?_
      go_simp
      refine (De.dv_read HD.out HLN.out (n * 2)).mono ?_
      rintro e w6 ⟨rfl, hb⟩
      rw [HR0.out]
      have HBLn := Lib.hid (HBL.out.trans (hb.mono HBL.out.size))
      have F2n := Lib.hid (F2.out.below hb F2.out.lt)
      have F5n := Lib.hid (F5.out.below hb F5.out.lt)
      have HDn := Lib.hid (HD.out.below hb)
      have HEVn := Lib.hid (HEV.out.below (Nat.le_refl _) hb)
      clear HBL F2 F5 HD HEV
      have HBL := HBLn
      have F2 := F2n
      have F5 := F5n
      have HD := HDn
      have HEV := HEVn
      clear HBLn F2n F5n HDn HEVn
      clear hb
      refine hK _ _ ?_
      clear hK K
      try simp only [Act.put, List.setIfInBounds_toArray, List.set_cons_succ, List.set_cons_zero]
      refine takeL (.tuple #[.agg (u8s a).toArray, .int .i64 (d.readE (n * 2))]) rfl (by go_simp) ?_
      try simp only [Act.put, List.setIfInBounds_toArray, List.set_cons_succ, List.set_cons_zero]
      refine takeL (.agg (u8s a).toArray) rfl (by go_simp) ?_
      try simp only [Act.put, List.setIfInBounds_toArray, List.set_cons_succ, List.set_cons_zero]
      refine takeL (.int .i64 (d.readE (n * 2))) rfl (by go_simp) ?_
      try simp only [Act.put, List.setIfInBounds_toArray, List.set_cons_succ, List.set_cons_zero]
      refine takeL (.pointer (some ⟨g4, 0, none⟩)) rfl (by go_simp) ?_
      try simp only [Act.put, List.setIfInBounds_toArray, List.set_cons_succ, List.set_cons_zero]
      refine store_g (off := 0) (cs := (u8s a).toArray) F5.out (by rw [u8s_size, HLA.out]; exact info49) (by rw [u8s_size, HLA.out]; simp [HZ128.out, HLA.out, HZ64.out]) (u8s_one _) rfl rfl rfl ?_
      rw [HA.out]
      intro w7 hD hO hlD
      try simp only [Act.put, List.setIfInBounds_toArray, List.set_cons_succ, List.set_cons_zero]
      have HBLn := Lib.hid (HBL.out.trans (hO.below HBL.out.size fun k hk => by rw [hk]; exact GEg4.out))
      have F2n := Lib.hid (F2.out.only hO (NEg0_g4.out))
      have F5n : Hid (Blk w7 g4 (u8s (a ++ zeros 64))) := Lib.hid hD
      have HDn := Lib.hid (HD.out.go1 hO GDg4.out NFg4.out)
      have HEVn := Lib.hid (HEV.out.keep hO GEg4.out HP.out)
      clear HBL F2 F5 HD HEV
      have HBL := HBLn
      have F2 := F2n
      have F5 := F5n
      have HD := HDn
      have HEV := HEVn
      clear HBLn F2n F5n HDn HEVn
      clear hD hO hlD
      refine wpList_nil ?_
      go_wp2_with fail
      go_roundg (2 - (0 + 1))
      case measure => omega
      case rel => exact ⟨1, by omega, by omega, by go_num, F2.out, F5.out, HBL.out, HD.out, HEV.out⟩
    · have F5 : Hid (Blk wr g4 (u8s (a ++ zeros 64))) := Lib.hid F5k.out
      clear F5k
      go_upto_region 5 with fail
      refine wp_region_lit ?_
      refine takeL (.int .i64 1) rfl (by go_simp) ?_
      try simp only [Act.put, List.setIfInBounds_toArray, List.set_cons_succ, List.set_cons_zero]
      refine takeL (.pointer (some ⟨b, 0, none⟩)) rfl (by go_simp) ?_
      try simp only [Act.put, List.setIfInBounds_toArray, List.set_cons_succ, List.set_cons_zero]
      refine takeL (.int .i64 n) rfl (by go_simp) ?_
      try simp only [Act.put, List.setIfInBounds_toArray, List.set_cons_succ, List.set_cons_zero]
      refine takeL (.int .i64 (n * 2)) rfl (by go_simp; simp [HM.out]) ?_
      try simp only [Act.put, List.setIfInBounds_toArray, List.set_cons_succ, List.set_cons_zero]
      refine takeL (.int .i64 1) rfl (by go_simp) ?_
      try simp only [Act.put, List.setIfInBounds_toArray, List.set_cons_succ, List.set_cons_zero]
      refine takeL (.int .i64 (n * 2 + 1)) rfl (by go_simp; simp [HM1.out]) ?_
      try simp only [Act.put, List.setIfInBounds_toArray, List.set_cons_succ, List.set_cons_zero]
      refine wpList_op rfl fun K hK => ?_
      go_simp
      refine (De.dv_read HD.out HLN.out (n * 2 + 1)).mono ?_
      rintro e w6 ⟨rfl, hb⟩
      rw [HR1.out]
      have HBLn := Lib.hid (HBL.out.trans (hb.mono HBL.out.size))
      have F2n := Lib.hid (F2.out.below hb F2.out.lt)
      have F5n := Lib.hid (F5.out.below hb F5.out.lt)
      have HDn := Lib.hid (HD.out.below hb)
      have HEVn := Lib.hid (HEV.out.below (Nat.le_refl _) hb)
      clear HBL F2 F5 HD HEV
      have HBL := HBLn
      have F2 := F2n
      have F5 := F5n
      have HD := HDn
      have HEV := HEVn
      clear HBLn F2n F5n HDn HEVn
      clear hb
      refine hK _ _ ?_
      clear hK K
      try simp only [Act.put, List.setIfInBounds_toArray, List.set_cons_succ, List.set_cons_zero]
      refine takeL (.tuple #[.agg (u8s c).toArray, .int .i64 (d.readE (n * 2 + 1))]) rfl (by go_simp) ?_
      try simp only [Act.put, List.setIfInBounds_toArray, List.set_cons_succ, List.set_cons_zero]
      refine takeL (.agg (u8s c).toArray) rfl (by go_simp) ?_
      try simp only [Act.put, List.setIfInBounds_toArray, List.set_cons_succ, List.set_cons_zero]
      refine takeL (.int .i64 (d.readE (n * 2 + 1))) rfl (by go_simp) ?_
      try simp only [Act.put, List.setIfInBounds_toArray, List.set_cons_succ, List.set_cons_zero]
      refine takeL (.pointer (some ⟨g4, 64, none⟩)) rfl (by go_simp) ?_
      try simp only [Act.put, List.setIfInBounds_toArray, List.set_cons_succ, List.set_cons_zero]
      refine store_g (off := 64) (cs := (u8s c).toArray) F5.out (by rw [u8s_size, HLC.out]; exact info49) (by rw [u8s_size, HLC.out]; simp [HF1.out, HLA.out, HZ64.out]) (u8s_one _) rfl rfl rfl ?_
      rw [HC.out]
      intro w7 hD hO hlD
      try simp only [Act.put, List.setIfInBounds_toArray, List.set_cons_succ, List.set_cons_zero]
      have HBLn := Lib.hid (HBL.out.trans (hO.below HBL.out.size fun k hk => by rw [hk]; exact GEg4.out))
      have F2n := Lib.hid (F2.out.only hO (NEg0_g4.out))
      have F5n : Hid (Blk w7 g4 (u8s x)) := Lib.hid hD
      have HDn := Lib.hid (HD.out.go1 hO GDg4.out NFg4.out)
      have HEVn := Lib.hid (HEV.out.keep hO GEg4.out HP.out)
      clear HBL F2 F5 HD HEV
      have HBL := HBLn
      have F2 := F2n
      have F5 := F5n
      have HD := HDn
      have HEV := HEVn
      clear HBLn F2n F5n HDn HEVn
      clear hD hO hlD
      refine wpList_nil ?_
      go_wp2_with fail
      go_roundg (2 - (1 + 1))
      case measure => omega
      case rel => exact ⟨2, by omega, by omega, by go_num, F2.out, F5.out, HBL.out, HD.out, HEV.out⟩
    · have F5 : Hid (Blk wr g4 (u8s x)) := Lib.hid F5k.out
      clear F5k
      go_upto_region 7 with fail
      refine wp_region_lit ?_
      refine load50 (cs := (u8s x).toArray) (Blk.all F5.out rfl) (by rw [u8s_size, HXL.out]) rfl rfl ?_
      try simp only [Act.put, List.setIfInBounds_toArray, List.set_cons_succ, List.set_cons_zero]
      refine wpList_op rfl fun K hK => ?_
      go_simp
      refine (decode_yes HX.out HQ.out _ HEV.out).mono ?_
      rintro e w6 ⟨rfl, hb⟩
      have HBLn := Lib.hid (HBL.out.trans (hb.mono HBL.out.size))
      have F2n := Lib.hid (F2.out.below hb F2.out.lt)
      have F5n := Lib.hid (F5.out.below hb F5.out.lt)
      have HDn := Lib.hid (HD.out.below hb)
      have HEVn := Lib.hid (HEV.out.below (Nat.le_refl _) hb)
      clear HBL F2 F5 HD HEV
      have HBL := HBLn
      have F2 := F2n
      have F5 := F5n
      have HD := HDn
      have HEV := HEVn
      clear HBLn F2n F5n HDn HEVn
      clear hb
      refine hK _ _ ?_
      clear hK K
      try simp only [Act.put, List.setIfInBounds_toArray, List.set_cons_succ, List.set_cons_zero]
      refine takeL (.tuple #[.agg (readOf x).cells.toArray, .int .i64 0]) rfl (by go_simp) ?_
      try simp only [Act.put, List.setIfInBounds_toArray, List.set_cons_succ, List.set_cons_zero]
      refine takeL (.agg (readOf x).cells.toArray) rfl (by go_simp) ?_
      try simp only [Act.put, List.setIfInBounds_toArray, List.set_cons_succ, List.set_cons_zero]
      refine takeL (.int .i64 0) rfl (by go_simp) ?_
      try simp only [Act.put, List.setIfInBounds_toArray, List.set_cons_succ, List.set_cons_zero]
      refine alloc_g zero27 rfl ?_
      intro w7 hA hb hl
      try simp only [Act.put, List.setIfInBounds_toArray, List.set_cons_succ, List.set_cons_zero]
      have NFg8 := Lib.hid (fun hk => Nat.lt_irrefl _ (HD.out.lt w6.heap.size hk).2)
      have GDg8 := Lib.hid HD.out.2.size
      have HBLn := Lib.hid (HBL.out.trans (hb.mono HBL.out.size))
      have F2n := Lib.hid (F2.out.below hb F2.out.lt)
      have NEg0_g8 := Lib.hid (Nat.ne_of_lt F2.out.lt)
      have F5n := Lib.hid (F5.out.below hb F5.out.lt)
      have NEg4_g8 := Lib.hid (Nat.ne_of_lt F5.out.lt)
      have HDn := Lib.hid (HD.out.below hb)
      have HEVn := Lib.hid (HEV.out.below (Nat.le_refl _) hb)
      have F9 : Hid (Blk w7 w6.heap.size (Rg.none.cells)) := Lib.hid (by first | exact hA | simpa using hA)
      have GEg8 := Lib.hid HBL.out.size
      clear HBL F2 F5 HD HEV
      have HBL := HBLn
      have F2 := F2n
      have F5 := F5n
      have HD := HDn
      have HEV := HEVn
      clear HBLn F2n F5n HDn HEVn
      clear hA hb hl
      generalize w6.heap.size = g8 at *
      refine store_all (cs := (readOf x).cells.toArray) F9.out (by simp only [List.size_toArray, HWN.out.cells, HWR.out.cells]) (by rw [List.size_toArray, HWR.out.cells]; exact info27) (by simpa using Rg.cell_one (readOf x)) rfl rfl rfl ?_
      intro w10 hD hO hlD
      try simp only [Act.put, List.setIfInBounds_toArray, List.set_cons_succ, List.set_cons_zero]
      have HBLn := Lib.hid (HBL.out.trans (hO.below HBL.out.size fun k hk => by rw [hk]; exact GEg8.out))
      have F2n := Lib.hid (F2.out.only hO (NEg0_g8.out))
      have F5n := Lib.hid (F5.out.only hO (NEg4_g8.out))
      have F9n : Hid (Blk w10 g8 ((readOf x).cells)) := Lib.hid (by first | exact hD | simpa using hD)
      have HDn := Lib.hid (HD.out.go1 hO GDg8.out NFg8.out)
      have HEVn := Lib.hid (HEV.out.keep hO GEg8.out HP.out)
      clear HBL F2 F5 F9 HD HEV
      have HBL := HBLn
      have F2 := F2n
      have F5 := F5n
      have F9 := F9n
      have HD := HDn
      have HEV := HEVn
      clear HBLn F2n F5n F9n HDn HEVn
      clear hD hO hlD
      refine takeL (.int .i64 0) rfl (by go_simp) ?_
      try simp only [Act.put, List.setIfInBounds_toArray, List.set_cons_succ, List.set_cons_zero]
      refine wpList_nil ?_
      go_upto_region 8 with fail
      refine wp_region_lit ?_
      refine takeL (.int .i64 0) rfl (by go_simp) ?_
      try simp only [Act.put, List.setIfInBounds_toArray, List.set_cons_succ, List.set_cons_zero]
      refine takeL (.bool false) rfl (by go_simp) ?_
      try simp only [Act.put, List.setIfInBounds_toArray, List.set_cons_succ, List.set_cons_zero]
      refine takeL (.bool false) rfl (by go_simp) ?_
      try simp only [Act.put, List.setIfInBounds_toArray, List.set_cons_succ, List.set_cons_zero]
      refine wpList_nil ?_
      go_upto_region 10 with fail
      refine wp_region_lit ?_
      refine load27 (cs := (readOf x).cells.toArray) (Blk.all F9.out rfl) (by rw [List.size_toArray]; exact HWR.out.cells) rfl rfl ?_
      try simp only [Act.put, List.setIfInBounds_toArray, List.set_cons_succ, List.set_cons_zero]
      refine wpList_op rfl fun K hK => ?_
      go_simp
      refine (number_any _ HWR.out _).mono ?_
      rintro e w11 ⟨rfl, hb⟩
      have HBLn := Lib.hid (HBL.out.trans (hb.mono HBL.out.size))
      have F2n := Lib.hid (F2.out.below hb F2.out.lt)
      have F5n := Lib.hid (F5.out.below hb F5.out.lt)
      have F9n := Lib.hid (F9.out.below hb F9.out.lt)
      have HDn := Lib.hid (HD.out.below hb)
      have HEVn := Lib.hid (HEV.out.below (Nat.le_refl _) hb)
      clear HBL F2 F5 F9 HD HEV
      have HBL := HBLn
      have F2 := F2n
      have F5 := F5n
      have F9 := F9n
      have HD := HDn
      have HEV := HEVn
      clear HBLn F2n F5n F9n HDn HEVn
      clear hb
      refine hK _ _ ?_
      clear hK K
      try simp only [Act.put, List.setIfInBounds_toArray, List.set_cons_succ, List.set_cons_zero]
      refine takeL (.int .i64 n) rfl (by go_simp) ?_
      try simp only [Act.put, List.setIfInBounds_toArray, List.set_cons_succ, List.set_cons_zero]
      refine takeL (.bool true) rfl (by go_simp; simp [HNE.out]) ?_
      try simp only [Act.put, List.setIfInBounds_toArray, List.set_cons_succ, List.set_cons_zero]
      refine takeL (.bool true) rfl (by go_simp) ?_
      try simp only [Act.put, List.setIfInBounds_toArray, List.set_cons_succ, List.set_cons_zero]
      refine wpList_nil ?_
      go_upto_region 11 with fail
      refine wp_region_lit ?_
      refine build_g (build27 _) rfl ?_
      try simp only [Act.put, List.setIfInBounds_toArray, List.set_cons_succ, List.set_cons_zero]
      refine wpList_op rfl fun K hK => ?_
      go_simp
      refine (new_some 13 _ _ rfl).mono ?_
      rintro e w12 ⟨vE, rfl, hc, hb⟩
      obtain ⟨TE, dE, rfl⟩ := hc.shape
      have HBLn := Lib.hid (HBL.out.trans (hb.mono HBL.out.size))
      have F2n := Lib.hid (F2.out.below hb F2.out.lt)
      have F5n := Lib.hid (F5.out.below hb F5.out.lt)
      have F9n := Lib.hid (F9.out.below hb F9.out.lt)
      have HDn := Lib.hid (HD.out.below hb)
      have HEVn := Lib.hid (HEV.out.below (Nat.le_refl _) hb)
      clear HBL F2 F5 F9 HD HEV
      have HBL := HBLn
      have F2 := F2n
      have F5 := F5n
      have F9 := F9n
      have HD := HDn
      have HEV := HEVn
      clear HBLn F2n F5n F9n HDn HEVn
      have HCH := Lib.hid hc
      clear hc hb
      refine hK _ _ ?_
      clear hK K
      try simp only [Act.put, List.setIfInBounds_toArray, List.set_cons_succ, List.set_cons_zero]
      refine store_all (cs := Rg.none.cells.toArray) F2.out (by simp only [List.size_toArray, HWN.out.cells, HWN.out.cells]) (by rw [List.size_toArray, HWN.out.cells]; exact info27) (by simpa using Rg.cell_one Rg.none) rfl rfl rfl ?_
      intro w13 hD hO hlD
      try simp only [Act.put, List.setIfInBounds_toArray, List.set_cons_succ, List.set_cons_zero]
      have HBLn := Lib.hid (HBL.out.trans (hO.below HBL.out.size fun k hk => by rw [hk]; exact GEg0.out))
      have F2n : Hid (Blk w13 w.heap.size (Rg.none.cells)) := Lib.hid (by first | exact hD | simpa using hD)
      have F5n := Lib.hid (F5.out.only hO (NEg0_g4.out.symm))
      have F9n := Lib.hid (F9.out.only hO (NEg0_g8.out.symm))
      have HDn := Lib.hid (HD.out.go1 hO GDg0.out NFg0.out)
      have HEVn := Lib.hid (HEV.out.keep hO GEg0.out HP.out)
      have HCHn := Lib.hid (HCH.out.keep hO (Blk.noStr F2.out (Rg.noStr _)))
      clear HBL F2 F5 F9 HD HEV HCH
      have HBL := HBLn
      have F2 := F2n
      have F5 := F5n
      have F9 := F9n
      have HD := HDn
      have HEV := HEVn
      have HCH := HCHn
      clear HBLn F2n F5n F9n HDn HEVn HCHn
      clear hD hO hlD
      refine takeL (.iface TE dE) rfl (by go_simp) ?_
      try simp only [Act.put, List.setIfInBounds_toArray, List.set_cons_succ, List.set_cons_zero]
      refine wpList_nil ?_
      go_wp2_with fail
      exact bodyPost_ret (v := .tuple #[.agg Rg.none.cells.toArray, .iface TE dE]) (results_cell_tmp rfl _ _ w.heap.size 0 _ _ _ rfl rfl Tryd.underlying27 rfl (by rw [List.size_toArray, HWN.out.cells]; exact info27) (Blk.all F2.out rfl)) rfl ⟨_, _, _, _, rfl, HCH.out, HBL.out⟩

set_option maxRecDepth 100000 in
set_option maxHeartbeats 4000000 in
theorem regionAt_small (a c x : List Int) (ha : a.length = 64) (hc : c.length = 64) (hxe : a ++ c = x) (hx : Sc2 x) (n : Int) (hn : n = 0 ∨ n = 1) (hq : isReg x = true) (hne : (readOf x).gen % 2 = n)  (w : World) (hev : ErrVar w) {W0 : World} {b : Nat} {F : Nat → Prop} {d : De.D} (h : De.Dv W0 w b F d) (htl : ¬ (readOf x).g.tot ≤ (d.S.length : Int)) (hLn : d.L.length ≤ 1000000) (hr0 : d.read (n * 2) = (u8s a).toArray) (hr1 : d.read (n * 2 + 1) = (u8s c).toArray) : Calls Tryd.prog 8 #[.pointer (some ⟨b, 0, none⟩), .int .i64 n] w fun e w' => ∃ T d t ts, e = .returned (.tuple #[.agg Rg.none.cells.toArray, .iface T d]) ∧ Chain w' 13 (t :: ts) (.iface T d) ∧ Below w.heap.size w w' := by
  have HZ128 := Lib.hid (zeros_length 128)
  have HZ64 := Lib.hid (zeros_length 64)
  have HWN := Lib.hid none_wf
  have HLA := Lib.hid ha
  have HLC := Lib.hid hc
  have HX := Lib.hid hx
  have HXL := Lib.hid hx.length
  have HWR := Lib.hid (readOf_wf hx)
  have HA := Lib.hid (lay_a ha)
  have HC := Lib.hid (lay_c ha hc hxe)
  have HF1 : Hid ((a ++ zeros 64).length = 128) := Lib.hid (by simp [ha, zeros])
  have HM : Hid (IntKind.i64.wrap (n * 2) = n * 2) := Lib.hid (wrap64 (by omega) (by omega))
  have HM1 : Hid (IntKind.i64.wrap (n * 2 + 1) = n * 2 + 1) := Lib.hid (wrap64 (by omega) (by omega))
  have HBL : Hid (Below w.heap.size w w) := Lib.hid (Below.refl _ _)
  have HEV := Lib.hid hev
  have HP := Lib.hid hev.lt
  have HD := Lib.hid h
  have HLN := Lib.hid hLn
  have HR0 := Lib.hid hr0
  have HR1 := Lib.hid hr1
  have HQ := Lib.hid hq
  have HNE : Hid ((readOf x).gen % 2 = n) := Lib.hid hne
  have HTL := Lib.hid htl
  clear ha hc hxe hx hn hev h hLn hr0 hr1 hq hne htl
  go_enter Tryd.func8, Tryd.ntmps8
  go_upto_region 0 with fail
  refine wp_region_lit ?_
  refine alloc_g zero27 rfl ?_
  intro w1 hA hb hl
  try simp only [Act.put, List.setIfInBounds_toArray, List.set_cons_succ, List.set_cons_zero]
  have NFg0 := Lib.hid (fun hk => Nat.lt_irrefl _ (HD.out.lt w.heap.size hk).2)
  have GDg0 := Lib.hid HD.out.2.size
  have HBLn := Lib.hid (HBL.out.trans (hb.mono HBL.out.size))
  have HDn := Lib.hid (HD.out.below hb)
  have HEVn := Lib.hid (HEV.out.below (Nat.le_refl _) hb)
  have F2 : Hid (Blk w1 w.heap.size (Rg.none.cells)) := Lib.hid (by first | exact hA | simpa using hA)
  have GEg0 := Lib.hid HBL.out.size
  clear HBL HD HEV
  have HBL := HBLn
  have HD := HDn
  have HEV := HEVn
  clear HBLn HDn HEVn
  clear hA hb hl
  refine takeL (Value.nilIface) rfl (by go_simp) ?_
  try simp only [Act.put, List.setIfInBounds_toArray, List.set_cons_succ, List.set_cons_zero]
  refine wpList_nil ?_
  go_upto_region 1 with fail
  refine wp_region_lit ?_
  refine alloc_g zero50 rfl ?_
  intro w3 hA hb hl
  try simp only [Act.put, List.setIfInBounds_toArray, List.set_cons_succ, List.set_cons_zero]
  have NFg4 := Lib.hid (fun hk => Nat.lt_irrefl _ (HD.out.lt w1.heap.size hk).2)
  have GDg4 := Lib.hid HD.out.2.size
  have HBLn := Lib.hid (HBL.out.trans (hb.mono HBL.out.size))
  have F2n := Lib.hid (F2.out.below hb F2.out.lt)
  have NEg0_g4 := Lib.hid (Nat.ne_of_lt F2.out.lt)
  have HDn := Lib.hid (HD.out.below hb)
  have HEVn := Lib.hid (HEV.out.below (Nat.le_refl _) hb)
  have F5 : Hid (Blk w3 w1.heap.size (u8s (zeros 128))) := Lib.hid (by first | exact hA | simpa using hA)
  have GEg4 := Lib.hid HBL.out.size
  clear HBL F2 HD HEV
  have HBL := HBLn
  have F2 := F2n
  have HD := HDn
  have HEV := HEVn
  clear HBLn F2n HDn HEVn
  clear hA hb hl
  generalize w1.heap.size = g4 at *
  refine wpList_nil ?_
  go_upto_region 2 with fail
  refine wp_region_lit ?_
  refine takeL (.int .i64 0) rfl (by go_simp) ?_
  try simp only [Act.put, List.setIfInBounds_toArray, List.set_cons_succ, List.set_cons_zero]
  refine wpList_nil ?_
  go_wp2_with fail
  go_loopg [10] 2 (fun q i wr => ∃ k : Nat, 2 - k ≤ q ∧ k ≤ 2 ∧ i = .int .i64 k ∧ Blk wr w.heap.size Rg.none.cells ∧ Blk wr g4 (u8s (fillR a x k)) ∧ Below w.heap.size w wr ∧ De.Dv W0 wr b F d ∧ ErrVar wr)
  case atStart => exact ⟨0, by omega, by omega, rfl, F2.out, F5.out, HBL.out, HD.out, HEV.out⟩
  case round =>
    obtain ⟨k, hq, hk, rfl, h0, h1, h2, h3, h4⟩ := hrel
    clear F2 F5 HBL HD HEV
    have F2 := Lib.hid h0
    have F5k := Lib.hid h1
    have HBL := Lib.hid h2
    have HD := Lib.hid h3
    have HEV := Lib.hid h4
    clear h0 h1 h2 h3 h4
    rcases (show k = 0 ∨ k = 1 ∨ k = 2 by omega) with rfl | rfl | rfl
    · have F5 : Hid (Blk wr g4 (u8s (zeros 128))) := Lib.hid F5k.out
      clear F5k
      go_upto_region 5 with fail
      refine wp_region_lit ?_
      refine takeL (.int .i64 0) rfl (by go_simp) ?_
      try simp only [Act.put, List.setIfInBounds_toArray, List.set_cons_succ, List.set_cons_zero]
      refine takeL (.pointer (some ⟨b, 0, none⟩)) rfl (by go_simp) ?_
      try simp only [Act.put, List.setIfInBounds_toArray, List.set_cons_succ, List.set_cons_zero]
      refine takeL (.int .i64 n) rfl (by go_simp) ?_
      try simp only [Act.put, List.setIfInBounds_toArray, List.set_cons_succ, List.set_cons_zero]
      refine takeL (.int .i64 (n * 2)) rfl (by go_simp; simp [HM.out]) ?_
      try simp only [Act.put, List.setIfInBounds_toArray, List.set_cons_succ, List.set_cons_zero]
      refine takeL (.int .i64 0) rfl (by go_simp) ?_
      try simp only [Act.put, List.setIfInBounds_toArray, List.set_cons_succ, List.set_cons_zero]
      refine takeL (.int .i64 (n * 2)) rfl (by go_simp; simp [HM.out]) ?_
      try simp only [Act.put, List.setIfInBounds_toArray, List.set_cons_succ, List.set_cons_zero]
      refine wpList_op rfl fun K hK => ?_
      go_simp
      refine (De.dv_read HD.out HLN.out (n * 2)).mono ?_
      rintro e w6 ⟨rfl, hb⟩
      rw [HR0.out]
      have HBLn := Lib.hid (HBL.out.trans (hb.mono HBL.out.size))
      have F2n := Lib.hid (F2.out.below hb F2.out.lt)
      have F5n := Lib.hid (F5.out.below hb F5.out.lt)
      have HDn := Lib.hid (HD.out.below hb)
      have HEVn := Lib.hid (HEV.out.below (Nat.le_refl _) hb)
      clear HBL F2 F5 HD HEV
      have HBL := HBLn
      have F2 := F2n
      have F5 := F5n
      have HD := HDn
      have HEV := HEVn
      clear HBLn F2n F5n HDn HEVn
      clear hb
      refine hK _ _ ?_
      clear hK K
      try simp only [Act.put, List.setIfInBounds_toArray, List.set_cons_succ, List.set_cons_zero]
      refine takeL (.tuple #[.agg (u8s a).toArray, .int .i64 (d.readE (n * 2))]) rfl (by go_simp) ?_
      try simp only [Act.put, List.setIfInBounds_toArray, List.set_cons_succ, List.set_cons_zero]
      refine takeL (.agg (u8s a).toArray) rfl (by go_simp) ?_
      try simp only [Act.put, List.setIfInBounds_toArray, List.set_cons_succ, List.set_cons_zero]
      refine takeL (.int .i64 (d.readE (n * 2))) rfl (by go_simp) ?_
      try simp only [Act.put, List.setIfInBounds_toArray, List.set_cons_succ, List.set_cons_zero]
      refine takeL (.pointer (some ⟨g4, 0, none⟩)) rfl (by go_simp) ?_
      try simp only [Act.put, List.setIfInBounds_toArray, List.set_cons_succ, List.set_cons_zero]
      refine store_g (off := 0) (cs := (u8s a).toArray) F5.out (by rw [u8s_size, HLA.out]; exact info49) (by rw [u8s_size, HLA.out]; simp [HZ128.out, HLA.out, HZ64.out]) (u8s_one _) rfl rfl rfl ?_
      rw [HA.out]
      intro w7 hD hO hlD
      try simp only [Act.put, List.setIfInBounds_toArray, List.set_cons_succ, List.set_cons_zero]
      have HBLn := Lib.hid (HBL.out.trans (hO.below HBL.out.size fun k hk => by rw [hk]; exact GEg4.out))
      have F2n := Lib.hid (F2.out.only hO (NEg0_g4.out))
      have F5n : Hid (Blk w7 g4 (u8s (a ++ zeros 64))) := Lib.hid hD
      have HDn := Lib.hid (HD.out.go1 hO GDg4.out NFg4.out)
      have HEVn := Lib.hid (HEV.out.keep hO GEg4.out HP.out)
      clear HBL F2 F5 HD HEV
      have HBL := HBLn
      have F2 := F2n
      have F5 := F5n
      have HD := HDn
      have HEV := HEVn
      clear HBLn F2n F5n HDn HEVn
      clear hD hO hlD
      refine wpList_nil ?_
      go_wp2_with fail
      go_roundg (2 - (0 + 1))
      case measure => omega
      case rel => exact ⟨1, by omega, by omega, by go_num, F2.out, F5.out, HBL.out, HD.out, HEV.out⟩
    · have F5 : Hid (Blk wr g4 (u8s (a ++ zeros 64))) := Lib.hid F5k.out
      clear F5k
      go_upto_region 5 with fail
      refine wp_region_lit ?_
      refine takeL (.int .i64 1) rfl (by go_simp) ?_
      try simp only [Act.put, List.setIfInBounds_toArray, List.set_cons_succ, List.set_cons_zero]
      refine takeL (.pointer (some ⟨b, 0, none⟩)) rfl (by go_simp) ?_
      try simp only [Act.put, List.setIfInBounds_toArray, List.set_cons_succ, List.set_cons_zero]
      refine takeL (.int .i64 n) rfl (by go_simp) ?_
      try simp only [Act.put, List.setIfInBounds_toArray, List.set_cons_succ, List.set_cons_zero]
      refine takeL (.int .i64 (n * 2)) rfl (by go_simp; simp [HM.out]) ?_
      try simp only [Act.put, List.setIfInBounds_toArray, List.set_cons_succ, List.set_cons_zero]
      refine takeL (.int .i64 1) rfl (by go_simp) ?_
      try simp only [Act.put, List.setIfInBounds_toArray, List.set_cons_succ, List.set_cons_zero]
      refine takeL (.int .i64 (n * 2 + 1)) rfl (by go_simp; simp [HM1.out]) ?_
      try simp only [Act.put, List.setIfInBounds_toArray, List.set_cons_succ, List.set_cons_zero]
      refine wpList_op rfl fun K hK => ?_
      go_simp
      refine (De.dv_read HD.out HLN.out (n * 2 + 1)).mono ?_
      rintro e w6 ⟨rfl, hb⟩
      rw [HR1.out]
      have HBLn := Lib.hid (HBL.out.trans (hb.mono HBL.out.size))
      have F2n := Lib.hid (F2.out.below hb F2.out.lt)
      have F5n := Lib.hid (F5.out.below hb F5.out.lt)
      have HDn := Lib.hid (HD.out.below hb)
      have HEVn := Lib.hid (HEV.out.below (Nat.le_refl _) hb)
      clear HBL F2 F5 HD HEV
      have HBL := HBLn
      have F2 := F2n
      have F5 := F5n
      have HD := HDn
      have HEV := HEVn
      clear HBLn F2n F5n HDn HEVn
      clear hb
      refine hK _ _ ?_
      clear hK K
      try simp only [Act.put, List.setIfInBounds_toArray, List.set_cons_succ, List.set_cons_zero]
      refine takeL (.tuple #[.agg (u8s c).toArray, .int .i64 (d.readE (n * 2 + 1))]) rfl (by go_simp) ?_
      try simp only [Act.put, List.setIfInBounds_toArray, List.set_cons_succ, List.set_cons_zero]
      refine takeL (.agg (u8s c).toArray) rfl (by go_simp) ?_
      try simp only [Act.put, List.setIfInBounds_toArray, List.set_cons_succ, List.set_cons_zero]
      refine takeL (.int .i64 (d.readE (n * 2 + 1))) rfl (by go_simp) ?_
      try simp only [Act.put, List.setIfInBounds_toArray, List.set_cons_succ, List.set_cons_zero]
      refine takeL (.pointer (some ⟨g4, 64, none⟩)) rfl (by go_simp) ?_
      try simp only [Act.put, List.setIfInBounds_toArray, List.set_cons_succ, List.set_cons_zero]
      refine store_g (off := 64) (cs := (u8s c).toArray) F5.out (by rw [u8s_size, HLC.out]; exact info49) (by rw [u8s_size, HLC.out]; simp [HF1.out, HLA.out, HZ64.out]) (u8s_one _) rfl rfl rfl ?_
      rw [HC.out]
      intro w7 hD hO hlD
      try simp only [Act.put, List.setIfInBounds_toArray, List.set_cons_succ, List.set_cons_zero]
      have HBLn := Lib.hid (HBL.out.trans (hO.below HBL.out.size fun k hk => by rw [hk]; exact GEg4.out))
      have F2n := Lib.hid (F2.out.only hO (NEg0_g4.out))
      have F5n : Hid (Blk w7 g4 (u8s x)) := Lib.hid hD
      have HDn := Lib.hid (HD.out.go1 hO GDg4.out NFg4.out)
      have HEVn := Lib.hid (HEV.out.keep hO GEg4.out HP.out)
      clear HBL F2 F5 HD HEV
      have HBL := HBLn
      have F2 := F2n
      have F5 := F5n
      have HD := HDn
      have HEV := HEVn
      clear HBLn F2n F5n HDn HEVn
      clear hD hO hlD
      refine wpList_nil ?_
      go_wp2_with fail
      go_roundg (2 - (1 + 1))
      case measure => omega
      case rel => exact ⟨2, by omega, by omega, by go_num, F2.out, F5.out, HBL.out, HD.out, HEV.out⟩
    · have F5 : Hid (Blk wr g4 (u8s x)) := Lib.hid F5k.out
      clear F5k
      go_upto_region 7 with fail
      refine wp_region_lit ?_
      refine load50 (cs := (u8s x).toArray) (Blk.all F5.out rfl) (by rw [u8s_size, HXL.out]) rfl rfl ?_
      try simp only [Act.put, List.setIfInBounds_toArray, List.set_cons_succ, List.set_cons_zero]
      refine wpList_op rfl fun K hK => ?_
      go_simp
      refine (decode_yes HX.out HQ.out _ HEV.out).mono ?_
      rintro e w6 ⟨rfl, hb⟩
      have HBLn := Lib.hid (HBL.out.trans (hb.mono HBL.out.size))
      have F2n := Lib.hid (F2.out.below hb F2.out.lt)
      have F5n := Lib.hid (F5.out.below hb F5.out.lt)
      have HDn := Lib.hid (HD.out.below hb)
      have HEVn := Lib.hid (HEV.out.below (Nat.le_refl _) hb)
      clear HBL F2 F5 HD HEV
      have HBL := HBLn
      have F2 := F2n
      have F5 := F5n
      have HD := HDn
      have HEV := HEVn
      clear HBLn F2n F5n HDn HEVn
      clear hb
      refine hK _ _ ?_
      clear hK K
      try simp only [Act.put, List.setIfInBounds_toArray, List.set_cons_succ, List.set_cons_zero]
      refine takeL (.tuple #[.agg (readOf x).cells.toArray, .int .i64 0]) rfl (by go_simp) ?_
      try simp only [Act.put, List.setIfInBounds_toArray, List.set_cons_succ, List.set_cons_zero]
      refine takeL (.agg (readOf x).cells.toArray) rfl (by go_simp) ?_
      try simp only [Act.put, List.setIfInBounds_toArray, List.set_cons_succ, List.set_cons_zero]
      refine takeL (.int .i64 0) rfl (by go_simp) ?_
      try simp only [Act.put, List.setIfInBounds_toArray, List.set_cons_succ, List.set_cons_zero]
      refine alloc_g zero27 rfl ?_
      intro w7 hA hb hl
      try simp only [Act.put, List.setIfInBounds_toArray, List.set_cons_succ, List.set_cons_zero]
      have NFg8 := Lib.hid (fun hk => Nat.lt_irrefl _ (HD.out.lt w6.heap.size hk).2)
      have GDg8 := Lib.hid HD.out.2.size
      have HBLn := Lib.hid (HBL.out.trans (hb.mono HBL.out.size))
      have F2n := Lib.hid (F2.out.below hb F2.out.lt)
      have NEg0_g8 := Lib.hid (Nat.ne_of_lt F2.out.lt)
      have F5n := Lib.hid (F5.out.below hb F5.out.lt)
      have NEg4_g8 := Lib.hid (Nat.ne_of_lt F5.out.lt)
      have HDn := Lib.hid (HD.out.below hb)
      have HEVn := Lib.hid (HEV.out.below (Nat.le_refl _) hb)
      have F9 : Hid (Blk w7 w6.heap.size (Rg.none.cells)) := Lib.hid (by first | exact hA | simpa using hA)
      have GEg8 := Lib.hid HBL.out.size
      clear HBL F2 F5 HD HEV
      have HBL := HBLn
      have F2 := F2n
      have F5 := F5n
      have HD := HDn
      have HEV := HEVn
      clear HBLn F2n F5n HDn HEVn
      clear hA hb hl
      generalize w6.heap.size = g8 at *
      refine store_all (cs := (readOf x).cells.toArray) F9.out (by simp only [List.size_toArray, HWN.out.cells, HWR.out.cells]) (by rw [List.size_toArray, HWR.out.cells]; exact info27) (by simpa using Rg.cell_one (readOf x)) rfl rfl rfl ?_
      intro w10 hD hO hlD
      try simp only [Act.put, List.setIfInBounds_toArray, List.set_cons_succ, List.set_cons_zero]
      have HBLn := Lib.hid (HBL.out.trans (hO.below HBL.out.size fun k hk => by rw [hk]; exact GEg8.out))
      have F2n := Lib.hid (F2.out.only hO (NEg0_g8.out))
      have F5n := Lib.hid (F5.out.only hO (NEg4_g8.out))
      have F9n : Hid (Blk w10 g8 ((readOf x).cells)) := Lib.hid (by first | exact hD | simpa using hD)
      have HDn := Lib.hid (HD.out.go1 hO GDg8.out NFg8.out)
      have HEVn := Lib.hid (HEV.out.keep hO GEg8.out HP.out)
      clear HBL F2 F5 F9 HD HEV
      have HBL := HBLn
      have F2 := F2n
      have F5 := F5n
      have F9 := F9n
      have HD := HDn
      have HEV := HEVn
      clear HBLn F2n F5n F9n HDn HEVn
      clear hD hO hlD
      refine takeL (.int .i64 0) rfl (by go_simp) ?_
      try simp only [Act.put, List.setIfInBounds_toArray, List.set_cons_succ, List.set_cons_zero]
      refine wpList_nil ?_
      go_upto_region 8 with fail
      refine wp_region_lit ?_
      refine takeL (.int .i64 0) rfl (by go_simp) ?_
      try simp only [Act.put, List.setIfInBounds_toArray, List.set_cons_succ, List.set_cons_zero]
      refine takeL (.bool false) rfl (by go_simp) ?_
      try simp only [Act.put, List.setIfInBounds_toArray, List.set_cons_succ, List.set_cons_zero]
      refine takeL (.bool false) rfl (by go_simp) ?_
      try simp only [Act.put, List.setIfInBounds_toArray, List.set_cons_succ, List.set_cons_zero]
      refine wpList_nil ?_
      go_upto_region 10 with fail
      refine wp_region_lit ?_
      refine load27 (cs := (readOf x).cells.toArray) (Blk.all F9.out rfl) (by rw [List.size_toArray]; exact HWR.out.cells) rfl rfl ?_
      try simp only [Act.put, List.setIfInBounds_toArray, List.set_cons_succ, List.set_cons_zero]
      refine wpList_op rfl fun K hK => ?_
      go_simp
      refine (number_any _ HWR.out _).mono ?_
      rintro e w11 ⟨rfl, hb⟩
      have HBLn := Lib.hid (HBL.out.trans (hb.mono HBL.out.size))
      have F2n := Lib.hid (F2.out.below hb F2.out.lt)
      have F5n := Lib.hid (F5.out.below hb F5.out.lt)
      have F9n := Lib.hid (F9.out.below hb F9.out.lt)
      have HDn := Lib.hid (HD.out.below hb)
      have HEVn := Lib.hid (HEV.out.below (Nat.le_refl _) hb)
      clear HBL F2 F5 F9 HD HEV
      have HBL := HBLn
      have F2 := F2n
      have F5 := F5n
      have F9 := F9n
      have HD := HDn
      have HEV := HEVn
      clear HBLn F2n F5n F9n HDn HEVn
      clear hb
      refine hK _ _ ?_
      clear hK K
      try simp only [Act.put, List.setIfInBounds_toArray, List.set_cons_succ, List.set_cons_zero]
      refine takeL (.int .i64 n) rfl (by go_simp) ?_
      try simp only [Act.put, List.setIfInBounds_toArray, List.set_cons_succ, List.set_cons_zero]
      refine takeL (.bool false) rfl (by go_simp; simp [HNE.out]) ?_
      try simp only [Act.put, List.setIfInBounds_toArray, List.set_cons_succ, List.set_cons_zero]
      refine takeL (.bool false) rfl (by go_simp) ?_
      try simp only [Act.put, List.setIfInBounds_toArray, List.set_cons_succ, List.set_cons_zero]
      refine wpList_nil ?_
      go_upto_region 12 with fail
      refine wp_region_lit ?_
      refine takeL (.pointer (some ⟨b, 0, none⟩)) rfl (by go_simp) ?_
      try simp only [Act.put, List.setIfInBounds_toArray, List.set_cons_succ, List.set_cons_zero]
      refine load27 (cs := (readOf x).cells.toArray) (Blk.all F9.out rfl) (by rw [List.size_toArray]; exact HWR.out.cells) rfl rfl ?_
      try simp only [Act.put, List.setIfInBounds_toArray, List.set_cons_succ, List.set_cons_zero]
      refine wpList_op rfl fun K hK => ?_
      go_simp
      refine (has_any _ HWR.out _ HD.out).mono ?_
      rintro e w12 ⟨rfl, hb⟩
      have HBLn := Lib.hid (HBL.out.trans (hb.mono HBL.out.size))
      have F2n := Lib.hid (F2.out.below hb F2.out.lt)
      have F5n := Lib.hid (F5.out.below hb F5.out.lt)
      have F9n := Lib.hid (F9.out.below hb F9.out.lt)
      have HDn := Lib.hid (HD.out.below hb)
      have HEVn := Lib.hid (HEV.out.below (Nat.le_refl _) hb)
      clear HBL F2 F5 F9 HD HEV
      have HBL := HBLn
      have F2 := F2n
      have F5 := F5n
      have F9 := F9n
      have HD := HDn
      have HEV := HEVn
      clear HBLn F2n F5n F9n HDn HEVn
      clear hb
      refine hK _ _ ?_
      clear hK K
      try simp only [Act.put, List.setIfInBounds_toArray, List.set_cons_succ, List.set_cons_zero]
      refine takeL (.bool true) rfl (by go_simp; simp [HTL.out]) ?_
      try simp only [Act.put, List.setIfInBounds_toArray, List.set_cons_succ, List.set_cons_zero]
      refine takeL (.bool true) rfl (by go_simp) ?_
      try simp only [Act.put, List.setIfInBounds_toArray, List.set_cons_succ, List.set_cons_zero]
      refine wpList_nil ?_
      go_upto_region 13 with fail
      refine wp_region_lit ?_
      refine build_g (build27 _) rfl ?_
      try simp only [Act.put, List.setIfInBounds_toArray, List.set_cons_succ, List.set_cons_zero]
      refine wpList_op rfl fun K hK => ?_
      go_simp
      refine (new_some 13 _ _ rfl).mono ?_
      rintro e w13 ⟨vE, rfl, hc, hb⟩
      obtain ⟨TE, dE, rfl⟩ := hc.shape
      have HBLn := Lib.hid (HBL.out.trans (hb.mono HBL.out.size))
      have F2n := Lib.hid (F2.out.below hb F2.out.lt)
      have F5n := Lib.hid (F5.out.below hb F5.out.lt)
      have F9n := Lib.hid (F9.out.below hb F9.out.lt)
      have HDn := Lib.hid (HD.out.below hb)
      have HEVn := Lib.hid (HEV.out.below (Nat.le_refl _) hb)
      clear HBL F2 F5 F9 HD HEV
      have HBL := HBLn
      have F2 := F2n
      have F5 := F5n
      have F9 := F9n
      have HD := HDn
      have HEV := HEVn
      clear HBLn F2n F5n F9n HDn HEVn
      have HCH := Lib.hid hc
      clear hc hb
      refine hK _ _ ?_
      clear hK K
      try simp only [Act.put, List.setIfInBounds_toArray, List.set_cons_succ, List.set_cons_zero]
      refine store_all (cs := Rg.none.cells.toArray) F2.out (by simp only [List.size_toArray, HWN.out.cells, HWN.out.cells]) (by rw [List.size_toArray, HWN.out.cells]; exact info27) (by simpa using Rg.cell_one Rg.none) rfl rfl rfl ?_
      intro w14 hD hO hlD
      try simp only [Act.put, List.setIfInBounds_toArray, List.set_cons_succ, List.set_cons_zero]
      have HBLn := Lib.hid (HBL.out.trans (hO.below HBL.out.size fun k hk => by rw [hk]; exact GEg0.out))
      have F2n : Hid (Blk w14 w.heap.size (Rg.none.cells)) := Lib.hid (by first | exact hD | simpa using hD)
      have F5n := Lib.hid (F5.out.only hO (NEg0_g4.out.symm))
      have F9n := Lib.hid (F9.out.only hO (NEg0_g8.out.symm))
      have HDn := Lib.hid (HD.out.go1 hO GDg0.out NFg0.out)
      have HEVn := Lib.hid (HEV.out.keep hO GEg0.out HP.out)
      have HCHn := Lib.hid (HCH.out.keep hO (Blk.noStr F2.out (Rg.noStr _)))
      clear HBL F2 F5 F9 HD HEV HCH
      have HBL := HBLn
      have F2 := F2n
      have F5 := F5n
      have F9 := F9n
      have HD := HDn
      have HEV := HEVn
      have HCH := HCHn
      clear HBLn F2n F5n F9n HDn HEVn HCHn
      clear hD hO hlD
      refine takeL (.iface TE dE) rfl (by go_simp) ?_
      try simp only [Act.put, List.setIfInBounds_toArray, List.set_cons_succ, List.set_cons_zero]
      refine wpList_nil ?_
      go_wp2_with fail
      exact bodyPost_ret (v := .tuple #[.agg Rg.none.cells.toArray, .iface TE dE]) (results_cell_tmp rfl _ _ w.heap.size 0 _ _ _ rfl rfl Tryd.underlying27 rfl (by rw [List.size_toArray, HWN.out.cells]; exact info27) (Blk.all F2.out rfl)) rfl ⟨_, _, _, _, rfl, HCH.out, HBL.out⟩

set_option maxRecDepth 100000 in
set_option maxHeartbeats 4000000 in
theorem regionAt_yes (a c x : List Int) (ha : a.length = 64) (hc : c.length = 64) (hxe : a ++ c = x) (hx : Sc2 x) (n : Int) (hn : n = 0 ∨ n = 1) (hq : isReg x = true) (hne : (readOf x).gen % 2 = n)  (w : World) (hev : ErrVar w) {W0 : World} {b : Nat} {F : Nat → Prop} {d : De.D} (h : De.Dv W0 w b F d) (htl : (readOf x).g.tot ≤ (d.S.length : Int)) (hLn : d.L.length ≤ 1000000) (hr0 : d.read (n * 2) = (u8s a).toArray) (hr1 : d.read (n * 2 + 1) = (u8s c).toArray) : Calls Tryd.prog 8 #[.pointer (some ⟨b, 0, none⟩), .int .i64 n] w fun e w' => e = .returned (.tuple #[.agg (readOf x).cells.toArray, .nilIface]) ∧ Below w.heap.size w w' := by
  have HZ128 := Lib.hid (zeros_length 128)
  have HZ64 := Lib.hid (zeros_length 64)
  have HWN := Lib.hid none_wf
  have HLA := Lib.hid ha
  have HLC := Lib.hid hc
  have HX := Lib.hid hx
  have HXL := Lib.hid hx.length
  have HWR := Lib.hid (readOf_wf hx)
  have HA := Lib.hid (lay_a ha)
  have HC := Lib.hid (lay_c ha hc hxe)
  have HF1 : Hid ((a ++ zeros 64).length = 128) := Lib.hid (by simp [ha, zeros])
  have HM : Hid (IntKind.i64.wrap (n * 2) = n * 2) := Lib.hid (wrap64 (by omega) (by omega))
  have HM1 : Hid (IntKind.i64.wrap (n * 2 + 1) = n * 2 + 1) := Lib.hid (wrap64 (by omega) (by omega))
  have HBL : Hid (Below w.heap.size w w) := Lib.hid (Below.refl _ _)
  have HEV := Lib.hid hev
  have HP := Lib.hid hev.lt
  have HD := Lib.hid h
  have HLN := Lib.hid hLn
  have HR0 := Lib.hid hr0
  have HR1 := Lib.hid hr1
  have HQ := Lib.hid hq
  have HNE : Hid ((readOf x).gen % 2 = n) := Lib.hid hne
  have HTL := Lib.hid htl
  clear ha hc hxe hx hn hev h hLn hr0 hr1 hq hne htl
  go_enter Tryd.func8, Tryd.ntmps8
  go_upto_region 0 with fail
  refine wp_region_lit ?_
  refine alloc_g zero27 rfl ?_
  intro w1 hA hb hl
  try simp only [Act.put, List.setIfInBounds_toArray, List.set_cons_succ, List.set_cons_zero]
  have NFg0 := Lib.hid (fun hk => Nat.lt_irrefl _ (HD.out.lt w.heap.size hk).2)
  have GDg0 := Lib.hid HD.out.2.size
  have HBLn := Lib.hid (HBL.out.trans (hb.mono HBL.out.size))
  have HDn := Lib.hid (HD.out.below hb)
  have HEVn := Lib.hid (HEV.out.below (Nat.le_refl _) hb)
  have F2 : Hid (Blk w1 w.heap.size (Rg.none.cells)) := Lib.hid (by first | exact hA | simpa using hA)
  have GEg0 := Lib.hid HBL.out.size
  clear HBL HD HEV
  have HBL := HBLn
  have HD := HDn
  have HEV := HEVn
  clear HBLn HDn HEVn
  clear hA hb hl
  refine takeL (Value.nilIface) rfl (by go_simp) ?_
  try simp only [Act.put, List.setIfInBounds_toArray, List.set_cons_succ, List.set_cons_zero]
  refine wpList_nil ?_
  go_upto_region 1 with fail
  refine wp_region_lit ?_
  refine alloc_g zero50 rfl ?_
  intro w3 hA hb hl
  try simp only [Act.put, List.setIfInBounds_toArray, List.set_cons_succ, List.set_cons_zero]
  have NFg4 := Lib.hid (fun hk => Nat.lt_irrefl _ (HD.out.lt w1.heap.size hk).2)
  have GDg4 := Lib.hid HD.out.2.size
  have HBLn := Lib.hid (HBL.out.trans (hb.mono HBL.out.size))
  have F2n := Lib.hid (F2.out.below hb F2.out.lt)
  have NEg0_g4 := Lib.hid (Nat.ne_of_lt F2.out.lt)
  have HDn := Lib.hid (HD.out.below hb)
  have HEVn := Lib.hid (HEV.out.below (Nat.le_refl _) hb)
  have F5 : Hid (Blk w3 w1.heap.size (u8s (zeros 128))) := Lib.hid (by first | exact hA | simpa using hA)
  have GEg4 := Lib.hid HBL.out.size
  clear HBL F2 HD HEV
  have HBL := HBLn
  have F2 := F2n
  have HD := HDn
  have HEV := HEVn
  clear HBLn F2n HDn HEVn
  clear hA hb hl
  generalize w1.heap.size = g4 at *
  refine wpList_nil ?_
  go_upto_region 2 with fail
  refine wp_region_lit ?_
  refine takeL (.int .i64 0) rfl (by go_simp) ?_
  try simp only [Act.put, List.setIfInBounds_toArray, List.set_cons_succ, List.set_cons_zero]
  refine wpList_nil ?_
  go_wp2_with fail
  go_loopg [10] 2 (fun q i wr => ∃ k : Nat, 2 - k ≤ q ∧ k ≤ 2 ∧ i = .int .i64 k ∧ Blk wr w.heap.size Rg.none.cells ∧ Blk wr g4 (u8s (fillR a x k)) ∧ Below w.heap.size w wr ∧ De.Dv W0 wr b F d ∧ ErrVar wr)
  case atStart => exact ⟨0, by omega, by omega, rfl, F2.out, F5.out, HBL.out, HD.out, HEV.out⟩
  case round =>
    obtain ⟨k, hq, hk, rfl, h0, h1, h2, h3, h4⟩ := hrel
    clear F2 F5 HBL HD HEV
    have F2 := Lib.hid h0
    have F5k := Lib.hid h1
    have HBL := Lib.hid h2
    have HD := Lib.hid h3
    have HEV := Lib.hid h4
    clear h0 h1 h2 h3 h4
    rcases (show k = 0 ∨ k = 1 ∨ k = 2 by omega) with rfl | rfl | rfl
    · have F5 : Hid (Blk wr g4 (u8s (zeros 128))) := Lib.hid F5k.out
      clear F5k
      go_upto_region 5 with fail
      refine wp_region_lit ?_
      refine takeL (.int .i64 0) rfl (by go_simp) ?_
      try simp only [Act.put, List.setIfInBounds_toArray, List.set_cons_succ, List.set_cons_zero]
      refine takeL (.pointer (some ⟨b, 0, none⟩)) rfl (by go_simp) ?_
      try simp only [Act.put, List.setIfInBounds_toArray, List.set_cons_succ, List.set_cons_zero]
      refine takeL (.int .i64 n) rfl (by go_simp) ?_
      try simp only [Act.put, List.setIfInBounds_toArray, List.set_cons_succ, List.set_cons_zero]
      refine takeL (.int .i64 (n * 2)) rfl (by go_simp; simp [HM.out]) ?_
      try simp only [Act.put, List.setIfInBounds_toArray, List.set_cons_succ, List.set_cons_zero]
      refine takeL (.int .i64 0) rfl (by go_simp) ?_
      try simp only [Act.put, List.setIfInBounds_toArray, List.set_cons_succ, List.set_cons_zero]
      refine takeL (.int .i64 (n * 2)) rfl (by go_simp; simp [HM.out]) ?_
      try simp only [Act.put, List.setIfInBounds_toArray, List.set_cons_succ, List.set_cons_zero]
      refine wpList_op rfl fun K hK => ?_
      go_simp
      refine (De.dv_read HD.out HLN.out (n * 2)).mono ?_
      rintro e w6 ⟨rfl, hb⟩
      rw [HR0.out]
      have HBLn := Lib.hid (HBL.out.trans (hb.mono HBL.out.size))
      have F2n := Lib.hid (F2.out.below hb F2.out.lt)
      have F5n := Lib.hid (F5.out.below hb F5.out.lt)
      have HDn := Lib.hid (HD.out.below hb)
      have HEVn := Lib.hid (HEV.out.below (Nat.le_refl _) hb)
      clear HBL F2 F5 HD HEV
      have HBL := HBLn
      have F2 := F2n
      have F5 := F5n
      have HD := HDn
      have HEV := HEVn
      clear HBLn F2n F5n HDn HEVn
      clear hb
      refine hK _ _ ?_
      clear hK K
      try simp only [Act.put, List.setIfInBounds_toArray, List.set_cons_succ, List.set_cons_zero]
      refine takeL (.tuple #[.agg (u8s a).toArray, .int .i64 (d.readE (n * 2))]) rfl (by go_simp) ?_
      try simp only [Act.put, List.setIfInBounds_toArray, List.set_cons_succ, List.set_cons_zero]
      refine takeL (.agg (u8s a).toArray) rfl (by go_simp) ?_
      try simp only [Act.put, List.setIfInBounds_toArray, List.set_cons_succ, List.set_cons_zero]
      refine takeL (.int .i64 (d.readE (n * 2))) rfl (by go_simp) ?_
      try simp only [Act.put, List.setIfInBounds_toArray, List.set_cons_succ, List.set_cons_zero]
      refine takeL (.pointer (some ⟨g4, 0, none⟩)) rfl (by go_simp) ?_
      try simp only [Act.put, List.setIfInBounds_toArray, List.set_cons_succ, List.set_cons_zero]
      refine store_g (off := 0) (cs := (u8s a).toArray) F5.out (by rw [u8s_size, HLA.out]; exact info49) (by rw [u8s_size, HLA.out]; simp [HZ128.out, HLA.out, HZ64.out]) (u8s_one _) rfl rfl rfl ?_
      rw [HA.out]
      intro w7 hD hO hlD
      try simp only [Act.put, List.setIfInBounds_toArray, List.set_cons_succ, List.set_cons_zero]
      have HBLn := Lib.hid (HBL.out.trans (hO.below HBL.out.size fun k hk => by rw [hk]; exact GEg4.out))
      have F2n := Lib.hid (F2.out.only hO (NEg0_g4.out))
      have F5n : Hid (Blk w7 g4 (u8s (a ++ zeros 64))) := Lib.hid hD
      have HDn := Lib.hid (HD.out.go1 hO GDg4.out NFg4.out)
      have HEVn := Lib.hid (HEV.out.keep hO GEg4.out HP.out)
      clear HBL F2 F5 HD HEV
      have HBL := HBLn
      have F2 := F2n
      have F5 := F5n
      have HD := HDn
      have HEV := HEVn
      clear HBLn F2n F5n HDn HEVn
      clear hD hO hlD
      refine wpList_nil ?_
      go_wp2_with fail
      go_roundg (2 - (0 + 1))
      case measure => omega
      case rel => exact ⟨1, by omega, by omega, by go_num, F2.out, F5.out, HBL.out, HD.out, HEV.out⟩
    · have F5 : Hid (Blk wr g4 (u8s (a ++ zeros 64))) := Lib.hid F5k.out
      clear F5k
      go_upto_region 5 with fail
      refine wp_region_lit ?_
      refine takeL (.int .i64 1) rfl (by go_simp) ?_
      try simp only [Act.put, List.setIfInBounds_toArray, List.set_cons_succ, List.set_cons_zero]
      refine takeL (.pointer (some ⟨b, 0, none⟩)) rfl (by go_simp) ?_
      try simp only [Act.put, List.setIfInBounds_toArray, List.set_cons_succ, List.set_cons_zero]
      refine takeL (.int .i64 n) rfl (by go_simp) ?_
      try simp only [Act.put, List.setIfInBounds_toArray, List.set_cons_succ, List.set_cons_zero]
      refine takeL (.int .i64 (n * 2)) rfl (by go_simp; simp [HM.out]) ?_
      try simp only [Act.put, List.setIfInBounds_toArray, List.set_cons_succ, List.set_cons_zero]
      refine takeL (.int .i64 1) rfl (by go_simp) ?_
      try simp only [Act.put, List.setIfInBounds_toArray, List.set_cons_succ, List.set_cons_zero]
      refine takeL (.int .i64 (n * 2 + 1)) rfl (by go_simp; simp [HM1.out]) ?_
      try simp only [Act.put, List.setIfInBounds_toArray, List.set_cons_succ, List.set_cons_zero]
      refine wpList_op rfl fun K hK => ?_
      go_simp
      refine (De.dv_read HD.out HLN.out (n * 2 + 1)).mono ?_
      rintro e w6 ⟨rfl, hb⟩
      rw [HR1.out]
      have HBLn := Lib.hid (HBL.out.trans (hb.mono HBL.out.size))
      have F2n := Lib.hid (F2.out.below hb F2.out.lt)
      have F5n := Lib.hid (F5.out.below hb F5.out.lt)
      have HDn := Lib.hid (HD.out.below hb)
      have HEVn := Lib.hid (HEV.out.below (Nat.le_refl _) hb)
      clear HBL F2 F5 HD HEV
      have HBL := HBLn
      have F2 := F2n
      have F5 := F5n
      have HD := HDn
      have HEV := HEVn
      clear HBLn F2n F5n HDn HEVn
      clear hb
      refine hK _ _ ?_
      clear hK K
      try simp only [Act.put, List.setIfInBounds_toArray, List.set_cons_succ, List.set_cons_zero]
      refine takeL (.tuple #[.agg (u8s c).toArray, .int .i64 (d.readE (n * 2 + 1))]) rfl (by go_simp) ?_
      try simp only [Act.put, List.setIfInBounds_toArray, List.set_cons_succ, List.set_cons_zero]
      refine takeL (.agg (u8s c).toArray) rfl (by go_simp) ?_
      try simp only [Act.put, List.setIfInBounds_toArray, List.set_cons_succ, List.set_cons_zero]
      refine takeL (.int .i64 (d.readE (n * 2 + 1))) rfl (by go_simp) ?_
      try simp only [Act.put, List.setIfInBounds_toArray, List.set_cons_succ, List.set_cons_zero]
      refine takeL (.pointer (some ⟨g4, 64, none⟩)) rfl (by go_simp) ?_
      try simp only [Act.put, List.setIfInBounds_toArray, List.set_cons_succ, List.set_cons_zero]
      refine store_g (off := 64) (cs := (u8s c).toArray) F5.out (by rw [u8s_size, HLC.out]; exact info49) (by rw [u8s_size, HLC.out]; simp [HF1.out, HLA.out, HZ64.out]) (u8s_one _) rfl rfl rfl ?_
      rw [HC.out]
      intro w7 hD hO hlD
      try simp only [Act.put, List.setIfInBounds_toArray, List.set_cons_succ, List.set_cons_zero]
      have HBLn := Lib.hid (HBL.out.trans (hO.below HBL.out.size fun k hk => by rw [hk]; exact GEg4.out))
      have F2n := Lib.hid (F2.out.only hO (NEg0_g4.out))
      have F5n : Hid (Blk w7 g4 (u8s x)) := Lib.hid hD
      have HDn := Lib.hid (HD.out.go1 hO GDg4.out NFg4.out)
      have HEVn := Lib.hid (HEV.out.keep hO GEg4.out HP.out)
      clear HBL F2 F5 HD HEV
      have HBL := HBLn
      have F2 := F2n
      have F5 := F5n
      have HD := HDn
      have HEV := HEVn
      clear HBLn F2n F5n HDn HEVn
      clear hD hO hlD
      refine wpList_nil ?_
      go_wp2_with fail
      go_roundg (2 - (1 + 1))
      case measure => omega
      case rel => exact ⟨2, by omega, by omega, by go_num, F2.out, F5.out, HBL.out, HD.out, HEV.out⟩
    · have F5 : Hid (Blk wr g4 (u8s x)) := Lib.hid F5k.out
      clear F5k
      go_upto_region 7 with fail
      refine wp_region_lit ?_
      refine load50 (cs := (u8s x).toArray) (Blk.all F5.out rfl) (by rw [u8s_size, HXL.out]) rfl rfl ?_
      try simp only [Act.put, List.setIfInBounds_toArray, List.set_cons_succ, List.set_cons_zero]
      refine wpList_op rfl fun K hK => ?_
      go_simp
      refine (decode_yes HX.out HQ.out _ HEV.out).mono ?_
      rintro e w6 ⟨rfl, hb⟩
      have HBLn := Lib.hid (HBL.out.trans (hb.mono HBL.out.size))
      have F2n := Lib.hid (F2.out.below hb F2.out.lt)
      have F5n := Lib.hid (F5.out.below hb F5.out.lt)
      have HDn := Lib.hid (HD.out.below hb)
      have HEVn := Lib.hid (HEV.out.below (Nat.le_refl _) hb)
      clear HBL F2 F5 HD HEV
      have HBL := HBLn
      have F2 := F2n
      have F5 := F5n
      have HD := HDn
      have HEV := HEVn
      clear HBLn F2n F5n HDn HEVn
      clear hb
      refine hK _ _ ?_
      clear hK K
      try simp only [Act.put, List.setIfInBounds_toArray, List.set_cons_succ, List.set_cons_zero]
      refine takeL (.tuple #[.agg (readOf x).cells.toArray, .int .i64 0]) rfl (by go_simp) ?_
      try simp only [Act.put, List.setIfInBounds_toArray, List.set_cons_succ, List.set_cons_zero]
      refine takeL (.agg (readOf x).cells.toArray) rfl (by go_simp) ?_
      try simp only [Act.put, List.setIfInBounds_toArray, List.set_cons_succ, List.set_cons_zero]
      refine takeL (.int .i64 0) rfl (by go_simp) ?_
      try simp only [Act.put, List.setIfInBounds_toArray, List.set_cons_succ, List.set_cons_zero]
      refine alloc_g zero27 rfl ?_
      intro w7 hA hb hl
      try simp only [Act.put, List.setIfInBounds_toArray, List.set_cons_succ, List.set_cons_zero]
      have NFg8 := Lib.hid (fun hk => Nat.lt_irrefl _ (HD.out.lt w6.heap.size hk).2)
      have GDg8 := Lib.hid HD.out.2.size
      have HBLn := Lib.hid (HBL.out.trans (hb.mono HBL.out.size))
      have F2n := Lib.hid (F2.out.below hb F2.out.lt)
      have NEg0_g8 := Lib.hid (Nat.ne_of_lt F2.out.lt)
      have F5n := Lib.hid (F5.out.below hb F5.out.lt)
      have NEg4_g8 := Lib.hid (Nat.ne_of_lt F5.out.lt)
      have HDn := Lib.hid (HD.out.below hb)
      have HEVn := Lib.hid (HEV.out.below (Nat.le_refl _) hb)
      have F9 : Hid (Blk w7 w6.heap.size (Rg.none.cells)) := Lib.hid (by first | exact hA | simpa using hA)
      have GEg8 := Lib.hid HBL.out.size
      clear HBL F2 F5 HD HEV
      have HBL := HBLn
      have F2 := F2n
      have F5 := F5n
      have HD := HDn
      have HEV := HEVn
      clear HBLn F2n F5n HDn HEVn
      clear hA hb hl
      generalize w6.heap.size = g8 at *
      refine store_all (cs := (readOf x).cells.toArray) F9.out (by simp only [List.size_toArray, HWN.out.cells, HWR.out.cells]) (by rw [List.size_toArray, HWR.out.cells]; exact info27) (by simpa using Rg.cell_one (readOf x)) rfl rfl rfl ?_
      intro w10 hD hO hlD
      try simp only [Act.put, List.setIfInBounds_toArray, List.set_cons_succ, List.set_cons_zero]
      have HBLn := Lib.hid (HBL.out.trans (hO.below HBL.out.size fun k hk => by rw [hk]; exact GEg8.out))
      have F2n := Lib.hid (F2.out.only hO (NEg0_g8.out))
      have F5n := Lib.hid (F5.out.only hO (NEg4_g8.out))
      have F9n : Hid (Blk w10 g8 ((readOf x).cells)) := Lib.hid (by first | exact hD | simpa using hD)
      have HDn := Lib.hid (HD.out.go1 hO GDg8.out NFg8.out)
      have HEVn := Lib.hid (HEV.out.keep hO GEg8.out HP.out)
      clear HBL F2 F5 F9 HD HEV
      have HBL := HBLn
      have F2 := F2n
      have F5 := F5n
      have F9 := F9n
      have HD := HDn
      have HEV := HEVn
      clear HBLn F2n F5n F9n HDn HEVn
      clear hD hO hlD
      refine takeL (.int .i64 0) rfl (by go_simp) ?_
      try simp only [Act.put, List.setIfInBounds_toArray, List.set_cons_succ, List.set_cons_zero]
      refine wpList_nil ?_
      go_upto_region 8 with fail
      refine wp_region_lit ?_
      refine takeL (.int .i64 0) rfl (by go_simp) ?_
      try simp only [Act.put, List.setIfInBounds_toArray, List.set_cons_succ, List.set_cons_zero]
      refine takeL (.bool false) rfl (by go_simp) ?_
      try simp only [Act.put, List.setIfInBounds_toArray, List.set_cons_succ, List.set_cons_zero]
      refine takeL (.bool false) rfl (by go_simp) ?_
      try simp only [Act.put, List.setIfInBounds_toArray, List.set_cons_succ, List.set_cons_zero]
      refine wpList_nil ?_
      go_upto_region 10 with fail
      refine wp_region_lit ?_
      refine load27 (cs := (readOf x).cells.toArray) (Blk.all F9.out rfl) (by rw [List.size_toArray]; exact HWR.out.cells) rfl rfl ?_
      try simp only [Act.put, List.setIfInBounds_toArray, List.set_cons_succ, List.set_cons_zero]
      refine wpList_op rfl fun K hK => ?_
      go_simp
      refine (number_any _ HWR.out _).mono ?_
      rintro e w11 ⟨rfl, hb⟩
      have HBLn := Lib.hid (HBL.out.trans (hb.mono HBL.out.size))
      have F2n := Lib.hid (F2.out.below hb F2.out.lt)
      have F5n := Lib.hid (F5.out.below hb F5.out.lt)
      have F9n := Lib.hid (F9.out.below hb F9.out.lt)
      have HDn := Lib.hid (HD.out.below hb)
      have HEVn := Lib.hid (HEV.out.below (Nat.le_refl _) hb)
      clear HBL F2 F5 F9 HD HEV
      have HBL := HBLn
      have F2 := F2n
      have F5 := F5n
      have F9 := F9n
      have HD := HDn
      have HEV := HEVn
      clear HBLn F2n F5n F9n HDn HEVn
      clear hb
      refine hK _ _ ?_
      clear hK K
      try simp only [Act.put, List.setIfInBounds_toArray, List.set_cons_succ, List.set_cons_zero]
      refine takeL (.int .i64 n) rfl (by go_simp) ?_
      try simp only [Act.put, List.setIfInBounds_toArray, List.set_cons_succ, List.set_cons_zero]
      refine takeL (.bool false) rfl (by go_simp; simp [HNE.out]) ?_
      try simp only [Act.put, List.setIfInBounds_toArray, List.set_cons_succ, List.set_cons_zero]
      refine takeL (.bool false) rfl (by go_simp) ?_
      try simp only [Act.put, List.setIfInBounds_toArray, List.set_cons_succ, List.set_cons_zero]
      refine wpList_nil ?_
      go_upto_region 12 with fail
      refine wp_region_lit ?_
      refine takeL (.pointer (some ⟨b, 0, none⟩)) rfl (by go_simp) ?_
      try simp only [Act.put, List.setIfInBounds_toArray, List.set_cons_succ, List.set_cons_zero]
      refine load27 (cs := (readOf x).cells.toArray) (Blk.all F9.out rfl) (by rw [List.size_toArray]; exact HWR.out.cells) rfl rfl ?_
      try simp only [Act.put, List.setIfInBounds_toArray, List.set_cons_succ, List.set_cons_zero]
      refine wpList_op rfl fun K hK => ?_
      go_simp
      refine (has_any _ HWR.out _ HD.out).mono ?_
      rintro e w12 ⟨rfl, hb⟩
      have HBLn := Lib.hid (HBL.out.trans (hb.mono HBL.out.size))
      have F2n := Lib.hid (F2.out.below hb F2.out.lt)
      have F5n := Lib.hid (F5.out.below hb F5.out.lt)
      have F9n := Lib.hid (F9.out.below hb F9.out.lt)
      have HDn := Lib.hid (HD.out.below hb)
      have HEVn := Lib.hid (HEV.out.below (Nat.le_refl _) hb)
      clear HBL F2 F5 F9 HD HEV
      have HBL := HBLn
      have F2 := F2n
      have F5 := F5n
      have F9 := F9n
      have HD := HDn
      have HEV := HEVn
      clear HBLn F2n F5n F9n HDn HEVn
      clear hb
      refine hK _ _ ?_
      clear hK K
      try simp only [Act.put, List.setIfInBounds_toArray, List.set_cons_succ, List.set_cons_zero]
      refine takeL (.bool false) rfl (by go_simp; simp [HTL.out]) ?_
      try simp only [Act.put, List.setIfInBounds_toArray, List.set_cons_succ, List.set_cons_zero]
      refine takeL (.bool false) rfl (by go_simp) ?_
      try simp only [Act.put, List.setIfInBounds_toArray, List.set_cons_succ, List.set_cons_zero]
      refine wpList_nil ?_
      go_upto_region 14 with fail
      refine wp_region_lit ?_
      refine load27 (cs := (readOf x).cells.toArray) (Blk.all F9.out rfl) (by rw [List.size_toArray]; exact HWR.out.cells) rfl rfl ?_
      try simp only [Act.put, List.setIfInBounds_toArray, List.set_cons_succ, List.set_cons_zero]
      refine store_all (cs := (readOf x).cells.toArray) F2.out (by simp only [List.size_toArray, HWN.out.cells, HWR.out.cells]) (by rw [List.size_toArray, HWR.out.cells]; exact info27) (by simpa using Rg.cell_one (readOf x)) rfl rfl rfl ?_
      intro w13 hD hO hlD
      try simp only [Act.put, List.setIfInBounds_toArray, List.set_cons_succ, List.set_cons_zero]
      have HBLn := Lib.hid (HBL.out.trans (hO.below HBL.out.size fun k hk => by rw [hk]; exact GEg0.out))
      have F2n : Hid (Blk w13 w.heap.size ((readOf x).cells)) := Lib.hid (by first | exact hD | simpa using hD)
      have F5n := Lib.hid (F5.out.only hO (NEg0_g4.out.symm))
      have F9n := Lib.hid (F9.out.only hO (NEg0_g8.out.symm))
      have HDn := Lib.hid (HD.out.go1 hO GDg0.out NFg0.out)
      have HEVn := Lib.hid (HEV.out.keep hO GEg0.out HP.out)
      clear HBL F2 F5 F9 HD HEV
      have HBL := HBLn
      have F2 := F2n
      have F5 := F5n
      have F9 := F9n
      have HD := HDn
      have HEV := HEVn
      clear HBLn F2n F5n F9n HDn HEVn
      clear hD hO hlD
      refine takeL (Value.nilIface) rfl (by go_simp) ?_
      try simp only [Act.put, List.setIfInBounds_toArray, List.set_cons_succ, List.set_cons_zero]
      refine wpList_nil ?_
      go_wp2_with fail
      exact bodyPost_ret (v := .tuple #[.agg (readOf x).cells.toArray, .nilIface]) (results_cell_tmp rfl _ _ w.heap.size 0 _ _ _ rfl rfl Tryd.underlying27 rfl (by rw [List.size_toArray, HWR.out.cells]; exact info27) (Blk.all F2.out rfl)) rfl ⟨rfl, HBL.out⟩

/-- What regionAt tells: the region, or an error. -/
def Tells (q : Option Rg) (e : Ending) (w w' : World) : Prop := match q with
  | some r => e = .returned (.tuple #[.agg r.cells.toArray, .nilIface]) ∧ Below w.heap.size w w'
  | none => ∃ T d t ts, e = .returned (.tuple #[.agg Rg.none.cells.toArray, .iface T d]) ∧ Chain w' 13 (t :: ts) (.iface T d) ∧ Below w.heap.size w w'
theorem regionAt_any (a c x : List Int) (ha : a.length = 64) (hc : c.length = 64) (hxe : a ++ c = x) (hx : Sc2 x) (n : Int) (hn : n = 0 ∨ n = 1) (w : World) (hev : ErrVar w) {W0 : World} {b : Nat} {F : Nat → Prop} {d : De.D} (h : De.Dv W0 w b F d) (hLn : d.L.length ≤ 1000000) (hr0 : d.read (n * 2) = (u8s a).toArray) (hr1 : d.read (n * 2 + 1) = (u8s c).toArray) : Calls Tryd.prog 8 #[.pointer (some ⟨b, 0, none⟩), .int .i64 n] w fun e w' => Tells (regAt d.S.length n x) e w w' := by
  unfold regAt
  cases hq : isReg x with
  | false =>
    rw [if_neg (by simp)]
    exact regionAt_bad a c x ha hc hxe hx n hn hq w hev h hLn hr0 hr1
  | true =>
    by_cases hg : (readOf x).gen % 2 = n
    · by_cases ht : (readOf x).g.tot ≤ (d.S.length : Int)
      · rw [if_pos ⟨rfl, hg, ht⟩]
        exact regionAt_yes a c x ha hc hxe hx n hn hq hg (w := w) hev h ht hLn hr0 hr1
      · rw [if_neg (fun h => ht h.2.2)]
        exact regionAt_small a c x ha hc hxe hx n hn hq hg (w := w) hev h ht hLn hr0 hr1
    · rw [if_neg (fun h => hg h.2.1)]
      exact regionAt_other a c x ha hc hxe hx n hn hq hg w hev h hLn hr0 hr1

end Go.Proofs.YtoiekieddkadmaaDoor
