/- Package group's Read once more: what it hands back is new memory. -/
import Derived.Test.YthlnmdihdcfphaaGreatDoorHc
namespace Go.Proofs.YthlnmdihdcfphaaGreatDoor
set_option linter.unusedSimpArgs false
set_option linter.unusedVariables false
open Go.RowKit

def GatOutF (B : Nat) (r : List It × Nat) (e : Ending) (w' : World) : Prop := ∃ iv pl, r.1 = pl.map (·.1) ∧ e = .returned (.tuple #[iv, .int .i64 r.2]) ∧ ItemsAt w' iv pl ∧ Fresh B iv ∧ ∀ x ∈ pl, Fresh B x.2
theorem GatOutF.none {B : Nat} {r : List It × Nat} {w' : World} (h : r = ([], 0)) : GatOutF B r (.returned (.tuple #[.slice Option.none 0 0, .int .i64 0])) w' := by
  subst h
  exact ⟨_, [], rfl, rfl, ItemsAt.nil _ _ _, Fresh.nil _, fun x hx => by cases hx⟩
set_option maxRecDepth 100000 in
set_option maxHeartbeats 4000000 in
theorem gatherF_any (L : List (List Int)) (N : Nat) (hN : L.length = N) (hNN : N ≤ 100000) (sv : Value) (w : World) (h : SecsAt w sv L) : Calls Tryz.prog 83 #[sv] w fun e w' => GatOutF w.heap.size (gather L) e w' ∧ Below w.heap.size w w' := by
  obtain ⟨a, cap, rfl, hcap, hc⟩ := id h
  have HS := Lib.hid h
  rw [hN] at HS ⊢
  have HC := Lib.hid hc
  have HN := Lib.hid hN
  have HG : Hid (gat L (N + 1) [] 0 = gather L) := Lib.hid (by unfold gather; rw [hN])
  have HCAP : Hid (N ≤ cap) := Lib.hid (by omega)
  clear h hc hN hcap
  go_enter Tryz.func83, Tryz.ntmps83
  go_wp2_with fail
  go_loopg [2, 3] N (fun q u2 u3 wr => ∃ (t f : Nat) (s2 : Value) (P : List (It × Value)), s2 = u2 ∧ N - t ≤ q ∧ t ≤ N ∧ N < t + f ∧ u3 = .int .i64 t ∧ P.length ≤ 88 ∧ gat L f (P.map (·.1)) t = gather L ∧ (∀ x ∈ P, Fresh w.heap.size x.2) ∧ OwnI wr w.heap.size s2 P ∧ Below w.heap.size w wr)
  case atStart => exact ⟨0, N + 1, _, [], rfl, by omega, by omega, by omega, rfl, by simp, HG.out, (fun x hx => by cases hx), OwnI.nil _ _, Below.refl _ _⟩
  case round =>
    obtain ⟨t, f, s2, P, rfl, hq, ht, hf, rfl, hP, hg, hfx, ho, hb⟩ := hrel
    have HFX := Lib.hid hfx
    clear hfx
    obtain ⟨f, rfl⟩ : ∃ g, f = g + 1 := ⟨f - 1, by omega⟩
    obtain ⟨a2, c2, hs2, -⟩ := ho.len
    subst hs2
    have HO := Lib.hid ho
    have HB := Lib.hid hb
    have HGT := Lib.hid hg
    obtain ⟨pn, hpn⟩ : ∃ p, P.length = p := ⟨_, rfl⟩
    rw [hpn] at HO hP
    rw [hpn]
    have HPN := Lib.hid hpn
    clear hg ho hb HG hpn
    by_cases hlt : t < N
    · by_cases hpl : 64 < pn
      · have HX : Hid (gather L = ([], 0)) := Lib.hid (by rw [← HGT.out]; exact gat_many (by rw [List.length_map, HPN.out]; exact hpl))
        have g1 : decide ((t : Int) < (N : Int)) = true := decide_eq_true (by omega)
        have g2 : decide ((pn : Int) ≤ 64) = false := decide_eq_false (by omega)
        go_wp2_with fail
        first | go_ret2 | go_ret
        exact ⟨GatOutF.none HX.out, HB.out⟩
      have g1 : decide ((t : Int) < (N : Int)) = true := decide_eq_true (by omega)
      have g2 : decide ((pn : Int) ≤ 64) = true := decide_eq_true (by omega)
      have ht0 : (t : Int) < (N : Int) := by omega
      have hp64 : pn ≤ 64 := by omega
      obtain ⟨y, hy⟩ : ∃ y, L[t]? = some y := ⟨_, List.getElem?_eq_getElem (by have := HN.out; omega)⟩
      obtain ⟨y1, yg, yo, rfl, y2⟩ := HC.out t y hy
      have HYK := Lib.hid hy
      have HY := Lib.hid (y2.below HB.out (y2.lt (by rw [y1.size]; decide)))
      have HYS := Lib.hid y1.size
      have HDE := Lib.hid fun w => sdecode_any y y1 w
      have HREST := Lib.hid (HS.out.cut (t + 1) N (by omega) (Nat.le_refl _) (L.drop (t + 1)) (by rw [List.take_of_length_le (by rw [List.length_drop, HN.out]; omega)]))
      clear y1 y2 hy hpl hlt
      go_upto_region 2 with fail
      refine wp_region_lit ?_
      refine takeL (.slice (some ⟨yg, yo, none⟩) N cap) rfl (by go_simp) ?_
      try simp only [Act.put, List.setIfInBounds_toArray, List.set_cons_succ, List.set_cons_zero]
      refine takeL (.int .i64 t) rfl (by go_simp) ?_
      try simp only [Act.put, List.setIfInBounds_toArray, List.set_cons_succ, List.set_cons_zero]
      refine takeL (.pointer (some ⟨yg, yo + t * 64, none⟩)) rfl (by go_simp) ?_
      try simp only [Act.put, List.setIfInBounds_toArray, List.set_cons_succ, List.set_cons_zero]
      refine load115 (cs := (u8s y).toArray) HY.out HYS.out rfl rfl ?_
      try simp only [Act.put, List.setIfInBounds_toArray, List.set_cons_succ, List.set_cons_zero]
      refine wpList_op rfl fun K hK => ?_
      go_simp
      refine (HDE.out _).mono ?_
      rintro e w2 ⟨mv, rfl, hm, hb, hfr⟩
      have HO2 := Lib.hid (HO.out.below hb)
      have HB2 := Lib.hid (stay HB.out hb)
      have HM := Lib.hid hm
      have HFR := Lib.hid hfr
      have HLT := Lib.hid fun k hk => (HO.out.lt k hk).2
      clear hm hb hfr HO HB HY HDE
      refine hK _ _ ?_
      clear hK K
      try simp only [Act.put, List.setIfInBounds_toArray, List.set_cons_succ, List.set_cons_zero]
      refine takeL (.tuple #[.agg #[.int .u32 (decS y).seq, .bool (decS y).more, mv], .int .i64 (sdecE y)]) rfl (by go_simp) ?_
      try simp only [Act.put, List.setIfInBounds_toArray, List.set_cons_succ, List.set_cons_zero]
      refine takeL (.agg #[.int .u32 (decS y).seq, .bool (decS y).more, mv]) rfl (by go_simp) ?_
      try simp only [Act.put, List.setIfInBounds_toArray, List.set_cons_succ, List.set_cons_zero]
      refine takeL (.int .i64 (sdecE y)) rfl (by go_simp) ?_
      try simp only [Act.put, List.setIfInBounds_toArray, List.set_cons_succ, List.set_cons_zero]
      refine alloc_g zero187s rfl ?_
      intro w3 hA hb hl
      try simp only [Act.put, List.setIfInBounds_toArray, List.set_cons_succ, List.set_cons_zero]
      refine store_all (cs := #[.int .u32 (decS y).seq, .bool (decS y).more, mv]) hA rfl info187s (sum_one HM.out _ _) rfl rfl rfl ?_
      intro w4 hD hO hlD
      try simp only [Act.put, List.setIfInBounds_toArray, List.set_cons_succ, List.set_cons_zero]
      have hbb : Below w2.heap.size w2 w4 := hb.trans (hO.below hb.size fun k hk => Nat.le_of_eq hk.symm)
      have HO4 := Lib.hid (HO2.out.below hbb)
      have HB4 := Lib.hid (stay HB2.out hbb)
      have HM4 := Lib.hid (HM.out.below hbb)
      have HV4 := Lib.hid hD
      have HNE : Hid (∀ k, Value.ownBlock (.slice a2 pn c2) = some k → k < w2.heap.size) := Lib.hid fun k hk => (HO2.out.lt k hk).2
      generalize w2.heap.size = b4 at *
      clear hA hb hl hD hO hlD hbb HO2 HB2 HM
      refine takeL (.int .i64 (sdecE y)) rfl (by go_simp) ?_
      try simp only [Act.put, List.setIfInBounds_toArray, List.set_cons_succ, List.set_cons_zero]
      refine wpList_nil ?_
      cases hs : isSum y
      · have HX : Hid (gather L = ([], 0)) := Lib.hid (by rw [← HGT.out]; exact gat_nosum HYK.out hs)
        rw [(decS_no hs).2]
        clear hs
        go_wp2_with fail
        first | go_ret2 | go_ret
        exact ⟨GatOutF.none HX.out, HB4.out⟩
      have HSUM := Lib.hid hs
      have hgm := sum_good hs
      have HMG := Lib.hid hgm
      rw [(decS_yes hs).1] at HM4 HV4
      rw [(decS_yes hs).2, (decS_yes hs).1]
      clear hs
      obtain ⟨ms, hms⟩ : ∃ ms, (sreadOf y).marks = ms := ⟨_, rfl⟩
      rw [hms] at HM4 HMG
      have HMS := Lib.hid hms
      have hml := (good_len HMG.out).2
      have HBL := Lib.hid fun w h => blocks_any mv ms (by omega) w h
      have HIO := Lib.hid fun w h1 h2 => itemsOf_any ms (good_ok HMG.out) ms.length rfl hml (L.drop (t + 1)) (by rw [List.length_drop, HN.out]; omega) mv (.slice (cutA (some ⟨yg, yo, none⟩) (t + 1) cap 64) (N - (t + 1)) (cap - (t + 1))) w h1 h2
      have hbl := blocks_le ms
      obtain ⟨bn, hbn⟩ : ∃ b, blocks ms = b := ⟨_, rfl⟩
      rw [hbn] at hbl HBL
      have HBN := Lib.hid hbn
      have hb24 : bn ≤ 24 := by omega
      obtain ⟨mo, hmo⟩ : ∃ m, (sreadOf y).more = m := ⟨_, rfl⟩
      have HMO := Lib.hid hmo
      rw [hmo] at HV4 ⊢
      clear hms hgm hml hbl hbn hmo
      have cv1 : w4.cell? ⟨b4, 1, none⟩ = some (.bool mo) := HV4.out.cell rfl
      have cv2 : w4.cell? ⟨b4, 2, none⟩ = some mv := HV4.out.cell rfl
      go_upto_region 5 with fail
      refine startH (fun wq => Below w4.heap.size w4 wq) (by kernel_rfl) ?_
      refine takeH 0 (some 28) (.pointer (some ⟨b4, 2, none⟩)) rfl rfl (by kernel_rfl) (by kernel_rfl) (by kernel_rfl) (fun _ _ _ h => h) rfl (fun wq hS => by go_simp) (Below.refl _ _).drew ?_
      try simp only [Act.put, List.setIfInBounds_toArray, List.set_cons_succ, List.set_cons_zero]
      refine takeH 1 (some 29) (mv) rfl rfl (by kernel_rfl) (by kernel_rfl) (by kernel_rfl) (fun _ _ _ h => h) rfl (fun wq hS => by have q : wq.cell? ⟨b4, 2, none⟩ = some mv := (HV4.out.below hS HV4.out.lt).cell rfl; go_simp) (Below.refl _ _).drew ?_
      try simp only [Act.put, List.setIfInBounds_toArray, List.set_cons_succ, List.set_cons_zero]
      refine takeH 2 (some 30) (.slice (some ⟨yg, yo, none⟩) N cap) rfl rfl (by kernel_rfl) (by kernel_rfl) (by kernel_rfl) (fun _ _ _ h => h) rfl (fun wq hS => by go_simp) (Below.refl _ _).drew ?_
      try simp only [Act.put, List.setIfInBounds_toArray, List.set_cons_succ, List.set_cons_zero]
      refine takeH 3 (some 31) (.int .i64 t) rfl rfl (by kernel_rfl) (by kernel_rfl) (by kernel_rfl) (fun _ _ _ h => h) rfl (fun wq hS => by go_simp) (Below.refl _ _).drew ?_
      try simp only [Act.put, List.setIfInBounds_toArray, List.set_cons_succ, List.set_cons_zero]
      refine takeH 4 (some 32) (.int .i64 ((t + 1 : Nat) : Int)) rfl rfl (by kernel_rfl) (by kernel_rfl) (by kernel_rfl) (fun _ _ _ h => h) rfl (fun wq hS => by go_simp; exact wrap64 (by omega) (by omega)) (Below.refl _ _).drew ?_
      try simp only [Act.put, List.setIfInBounds_toArray, List.set_cons_succ, List.set_cons_zero]
      refine takeH 5 (some 33) (.slice (cutA (some ⟨yg, yo, none⟩) (t + 1) cap 64) (N - (t + 1)) (cap - (t + 1))) rfl rfl (by kernel_rfl) (by kernel_rfl) (by kernel_rfl) (fun _ _ _ h => h) rfl (fun wq hS => by exact exec_from24 wq _ _ _ _ rfl (some ⟨yg, yo, none⟩) N cap (t + 1) rfl rfl (by omega)) (Below.refl _ _).drew ?_
      try simp only [Act.put, List.setIfInBounds_toArray, List.set_cons_succ, List.set_cons_zero]
      refine oneH 6 (by kernel_rfl) rfl rfl fun K hK => ?_
      go_simp
      refine (HIO.out _ (HM4.out.below (Below.refl _ _).drew) (HREST.out.below (HB4.out.drew))).mono ?_
      rintro e w6 ⟨hio, hb⟩
      have HS6 := Lib.hid (stay (Below.refl w4.heap.size w4).drew hb)
      have HB6 := Lib.hid (stay HB4.out HS6.out)
      have HO6 := Lib.hid (HO4.out.below HS6.out)
      have HM6 := Lib.hid (HM4.out.below HS6.out)
      have HV6 := Lib.hid (HV4.out.below HS6.out HV4.out.lt)
      have HL4 := Lib.hid HV4.out.lt
      have HW4 : Hid (w.heap.size ≤ w4.heap.size) := Lib.hid HB4.out.size
      clear cv1 cv2 hb HB4 HO4 HM4 HV4
      rcases hio with ⟨h1, rfl⟩ | ⟨iv, pl, h1, rfl, h2, h3⟩
      · have HX : Hid (gather L = ([], 0)) := Lib.hid (by rw [← HGT.out]; exact gat_none HYK.out (by rw [HMS.out]; exact h1))
        clear h1
        refine hK _ _ HS6.out ?_
        clear hK K
        try simp only [Act.put, List.setIfInBounds_toArray, List.set_cons_succ, List.set_cons_zero]
        refine takeH 7 (some 27) (.tuple #[.slice none 0 0, .bool false]) rfl rfl (by kernel_rfl) (by kernel_rfl) (by kernel_rfl) (fun _ _ _ h => h) rfl (fun wq hS => by go_simp) HS6.out ?_
        try simp only [Act.put, List.setIfInBounds_toArray, List.set_cons_succ, List.set_cons_zero]
        refine takeH 8 (some 35) (.slice none 0 0) rfl rfl (by kernel_rfl) (by kernel_rfl) (by kernel_rfl) (fun _ _ _ h => h) rfl (fun wq hS => by go_simp) HS6.out ?_
        try simp only [Act.put, List.setIfInBounds_toArray, List.set_cons_succ, List.set_cons_zero]
        refine takeH 9 (some 36) (.bool false) rfl rfl (by kernel_rfl) (by kernel_rfl) (by kernel_rfl) (fun _ _ _ h => h) rfl (fun wq hS => by go_simp) HS6.out ?_
        try simp only [Act.put, List.setIfInBounds_toArray, List.set_cons_succ, List.set_cons_zero]
        refine takeH 10 (some 6) (.slice none 0 0) rfl rfl (by kernel_rfl) (by kernel_rfl) (by kernel_rfl) (fun _ _ _ h => h) rfl (fun wq hS => by go_simp) HS6.out ?_
        try simp only [Act.put, List.setIfInBounds_toArray, List.set_cons_succ, List.set_cons_zero]
        refine takeH 11 (some 7) (.bool false) rfl rfl (by kernel_rfl) (by kernel_rfl) (by kernel_rfl) (fun _ _ _ h => h) rfl (fun wq hS => by go_simp) HS6.out ?_
        try simp only [Act.put, List.setIfInBounds_toArray, List.set_cons_succ, List.set_cons_zero]
        refine wpAnyH_done (by kernel_rfl) ?_ _
        go_wp2_with fail
        first | go_ret2 | go_ret
        exact ⟨GatOutF.none HX.out, HB6.out⟩
      · have hlen := itemsP_len h1
        rw [List.length_map, HBN.out, List.length_drop, HN.out] at hlen
        obtain ⟨hl1, hl2⟩ := hlen
        have hl3 : pl.length ≤ 24 := by have := (good_len HMG.out).2; omega
        have HSOME := Lib.hid (gat_some (L := L) (f := f) (P := P.map (·.1)) HYK.out HSUM.out (by rw [List.length_map, HPN.out]; exact hp64) (by rw [HMS.out]; exact h1))
        have H2 := Lib.hid h2
        have H3 := Lib.hid h3
        have HFP : Hid (∀ x ∈ P ++ pl, Fresh w.heap.size x.2) := Lib.hid fun x hx => (List.mem_append.1 hx).elim (HFX.out x) fun h => fun b o n c e => Nat.le_trans HW4.out (h3 x h b o n c e)
        have HL3 := Lib.hid hl3
        have hl4 : t + (1 + bn) ≤ N := by omega
        clear h1 h2 h3 hl1 hl2 hl3
        refine hK _ _ HS6.out ?_
        clear hK K
        try simp only [Act.put, List.setIfInBounds_toArray, List.set_cons_succ, List.set_cons_zero]
        refine takeH 7 (some 27) (.tuple #[iv, .bool true]) rfl rfl (by kernel_rfl) (by kernel_rfl) (by kernel_rfl) (fun _ _ _ h => h) rfl (fun wq hS => by go_simp) HS6.out ?_
        try simp only [Act.put, List.setIfInBounds_toArray, List.set_cons_succ, List.set_cons_zero]
        refine takeH 8 (some 35) (iv) rfl rfl (by kernel_rfl) (by kernel_rfl) (by kernel_rfl) (fun _ _ _ h => h) rfl (fun wq hS => by go_simp) HS6.out ?_
        try simp only [Act.put, List.setIfInBounds_toArray, List.set_cons_succ, List.set_cons_zero]
        refine takeH 9 (some 36) (.bool true) rfl rfl (by kernel_rfl) (by kernel_rfl) (by kernel_rfl) (fun _ _ _ h => h) rfl (fun wq hS => by go_simp) HS6.out ?_
        try simp only [Act.put, List.setIfInBounds_toArray, List.set_cons_succ, List.set_cons_zero]
        refine takeH 10 (some 6) (iv) rfl rfl (by kernel_rfl) (by kernel_rfl) (by kernel_rfl) (fun _ _ _ h => h) rfl (fun wq hS => by go_simp) HS6.out ?_
        try simp only [Act.put, List.setIfInBounds_toArray, List.set_cons_succ, List.set_cons_zero]
        refine takeH 11 (some 7) (.bool true) rfl rfl (by kernel_rfl) (by kernel_rfl) (by kernel_rfl) (fun _ _ _ h => h) rfl (fun wq hS => by go_simp) HS6.out ?_
        try simp only [Act.put, List.setIfInBounds_toArray, List.set_cons_succ, List.set_cons_zero]
        refine wpAnyH_done (by kernel_rfl) ?_ _
        go_upto_region 8 with fail
        refine wp_region_lit ?_
        refine takeL (.slice a2 pn c2) rfl (by go_simp) ?_
        try simp only [Act.put, List.setIfInBounds_toArray, List.set_cons_succ, List.set_cons_zero]
        refine takeL (iv) rfl (by go_simp) ?_
        try simp only [Act.put, List.setIfInBounds_toArray, List.set_cons_succ, List.set_cons_zero]
        refine app_LI HO6.out HB6.out.size H2.out (fun x hx => Off.fresh (H3.out x hx) fun k hk => Nat.lt_trans (HNE.out k hk) HL4.out) (by have := HL3.out; have := HPN.out; omega) rfl rfl rfl ?_
        intro s7 w7 ho7 hg7 hr7
        try simp only [Act.put, List.setIfInBounds_toArray, List.set_cons_succ, List.set_cons_zero]
        have HB7 := Lib.hid (HB6.out.trans (grown_below hg7 HB6.out.size fun k hk => (HO6.out.lt k hk).1))
        have HO7 := Lib.hid ho7
        have HV7 := Lib.hid (HV6.out.grown hg7 fun k hk => Nat.ne_of_lt (HNE.out k hk))
        have HM7 := Lib.hid (HM6.out.grown hg7 HFR.out fun k hk => HLT.out k hk)
        clear ho7 hg7 hr7 HB6 HO6 HV6 HM6
        refine takeL (s7) rfl (by go_simp) ?_
        try simp only [Act.put, List.setIfInBounds_toArray, List.set_cons_succ, List.set_cons_zero]
        refine wpList_nil ?_
        have cv1 : w7.cell? ⟨b4, 1, none⟩ = some (.bool mo) := HV7.out.cell rfl
        have cv2 : w7.cell? ⟨b4, 2, none⟩ = some mv := HV7.out.cell rfl
        go_wp2_with fail
        refine (HBL.out _ HM7.out).mono ?_
        rintro e w8 ⟨rfl, hb⟩
        have HB8 := Lib.hid (stay HB7.out hb)
        have HO8 := Lib.hid (HO7.out.below hb)
        have HV8 := Lib.hid (HV7.out.below hb HV7.out.lt)
        clear hb HB7 HO7 HV7 HM7 cv1 cv2
        have cv1 : w8.cell? ⟨b4, 1, none⟩ = some (.bool mo) := HV8.out.cell rfl
        rw [HMO.out, HMS.out, HBN.out] at HSOME
        cases mo
        · have HX : Hid (gather L = ((P ++ pl).map (·.1), t + (1 + bn))) := Lib.hid (by rw [← HGT.out, HSOME.out]; simp)
          go_wp2_with fail
          first | go_ret2 | go_ret
          exact ⟨⟨_, P ++ pl, by rw [HX.out], by rw [HX.out]; simp, HO8.out.items, fun b o n c e => (HO8.out.lt b (by rw [e]; rfl)).1, HFP.out⟩, HB8.out⟩
        · have HX : Hid (gat L f ((P ++ pl).map (·.1)) (t + (1 + bn)) = gather L) := Lib.hid (by rw [← HGT.out, HSOME.out]; simp)
          have hpl2 : Hid ((P ++ pl).length ≤ 88) := Lib.hid (by rw [List.length_append, HPN.out]; have := HL3.out; omega)
          have hti : Hid ((t : Int) + (1 + (bn : Int)) = ((t + (1 + bn) : Nat) : Int)) := Lib.hid (by omega)
          go_wp2_with fail
          go_roundg (N - (t + (1 + bn)))
          case measure => omega
          case rel => exact ⟨t + (1 + bn), f, s7, P ++ pl, rfl, by omega, hl4, by omega, by rw [← hti.out], hpl2.out, HX.out, HFP.out, by simpa using HO8.out, HB8.out⟩
    · obtain rfl : t = N := by omega
      have HX : Hid (gather L = ([], 0)) := Lib.hid (by rw [← HGT.out]; exact gat_end (by rw [HN.out]; exact Nat.le_refl _))
      have g1 : decide ((t : Int) < (t : Int)) = false := decide_eq_false (by omega)
      go_wp2_with fail
      first | go_ret2 | go_ret
      exact ⟨GatOutF.none HX.out, HB.out⟩
def ReadOutF (B : Nat) (n : Int) (r : Option (List It)) (e : Ending) (w' : World) : Prop := (r = none ∧ e = .returned (.tuple #[.agg #[.slice none 0 0, .slice none 0 0, .int .i64 0, .int .i64 0], .bool false])) ∨
  ∃ iv pl av, r = some (pl.map (·.1)) ∧ e = .returned (.tuple #[.agg #[iv, av, .int .i64 (lay2 n (pl.map (·.1))).1.length, .int .i64 (parts pl.length)], .bool true]) ∧ ItemsAt w' iv pl ∧ IntsAt w' av (lay2 n (pl.map (·.1))).2 ∧ (∀ k, av.ownBlock = some k → B ≤ k) ∧ Fresh B iv ∧ ∀ x ∈ pl, Fresh B x.2
set_option maxRecDepth 100000 in
set_option maxHeartbeats 4000000 in
theorem readF_any (n : Int) (hn : Seq32 n) (L : List (List Int)) (N : Nat) (hN : L.length = N) (hNN : N ≤ 100000) (sv : Value) (w : World) (h : SecsAt w sv L) : Calls Tryz.prog 66 #[.int .u32 n, sv] w fun e w' => ReadOutF w.heap.size n (readP n L) e w' ∧ Below w.heap.size w w' := by
  have HGA := Lib.hid fun w h => gatherF_any L N hN hNN sv w h
  have HI := Lib.hid h
  obtain ⟨a, cap, rfl, hcap, -⟩ := h
  have HN := Lib.hid hN
  rw [hN] at HGA HI hcap ⊢
  have HT := Lib.hid (gather_len (L := L))
  have HM := Lib.hid (gather_many (L := L))
  have HCAP := Lib.hid hcap
  clear hcap hN
  go_enter Tryz.func66, Tryz.ntmps66
  go_upto_region 0 with fail
  refine wp_region_lit ?_
  refine alloc_g zero135 rfl ?_
  intro w1 hR hb hl
  try simp only [Act.put, List.setIfInBounds_toArray, List.set_cons_succ, List.set_cons_zero]
  have HR := Lib.hid hR
  have HB := Lib.hid hb
  have HL := Lib.hid hl
  have HI1 := Lib.hid (HI.out.below hb)
  clear hR hb hl
  refine takeL (.bool false) rfl (by go_simp) ?_
  try simp only [Act.put, List.setIfInBounds_toArray, List.set_cons_succ, List.set_cons_zero]
  refine wpList_nil ?_
  go_wp2_with fail
  refine (HGA.out _ HI1.out).mono ?_
  rintro e w2 ⟨⟨iv, pl, h1, rfl, h2, hf1, hf2⟩, hb⟩
  have HFF : Hid (Fresh w.heap.size iv ∧ ∀ x ∈ pl, Fresh w.heap.size x.2) := Lib.hid ⟨fun b o n c e => Nat.le_trans (Nat.le_of_lt HL.out) (hf1 b o n c e), fun x hx b o n c e => Nat.le_trans (Nat.le_of_lt HL.out) (hf2 x hx b o n c e)⟩
  clear hf1 hf2
  have HB2 := Lib.hid (stay HB.out hb)
  have HR2 := Lib.hid (HR.out.below hb HL.out)
  have HI2 := Lib.hid (HI1.out.below hb)
  have HL2 : Hid (w.heap.size < w2.heap.size) := Lib.hid (Nat.lt_of_lt_of_le HL.out hb.size)
  have HP2 := Lib.hid h2
  have HRP : Hid (readP n L = if mayBe (pl.map (·.1)) && decide ((lay2 n (pl.map (·.1))).1 = L.take (gather L).2) then some (pl.map (·.1)) else none) := Lib.hid (by unfold readP; rw [h1])
  have hpl := HM.out
  rw [h1, List.length_map] at hpl
  have HPL := Lib.hid hpl
  obtain ⟨ia, ic, hiv, -⟩ := h2
  have HTT := HT.out
  rw [HN.out] at HTT
  obtain ⟨t, ht⟩ : ∃ t, (gather L).2 = t := ⟨_, rfl⟩
  rw [ht] at HRP HTT ⊢
  clear h1 hb HB HR HI1 HL HGA hpl HT HM ht
  obtain ⟨pn, hpn⟩ : ∃ p, pl.length = p := ⟨_, rfl⟩
  rw [hpn] at hiv
  subst hiv
  have HPN := Lib.hid hpn
  have hpn88 : pn ≤ 88 := by have := HPL.out; omega
  clear hpn HPL
  have HPA := Lib.hid fun w => partsOf_any (.slice ia pn ic) pn ⟨_, _, rfl⟩ (by omega) w
  cases hm : mayBe (pl.map (·.1))
  · have HX : Hid (readP n L = none) := Lib.hid (by rw [HRP.out, hm, Bool.false_and]; exact if_neg Bool.false_ne_true)
    have HLN := Lib.hid fun w h => lay_no pl (pl.map (·.1)) rfl hm n (.slice ia pn ic) (by have := HPN.out; omega) w h
    clear hm
    go_wp2_with fail
    refine (HLN.out _ HP2.out).mono ?_
    rintro e w3 ⟨rfl, hb⟩
    have HB3 := Lib.hid (stay HB2.out hb)
    have HR3 := Lib.hid (HR2.out.below hb HL2.out)
    clear hb HB2 HR2 HI2 HP2 HLN
    go_upto_region 4 with fail
    refine wp_region_lit ?_
    refine build_g (run_build _ 135 _ _ built135e) rfl ?_
    try simp only [Act.put, List.setIfInBounds_toArray, List.set_cons_succ, List.set_cons_zero]
    refine store_all (cs := #[.slice none 0 0, .slice none 0 0, .int .i64 0, .int .i64 0]) HR3.out rfl info135 (four_one none none 0 0 0 0 0 0) rfl rfl rfl ?_
    intro w4 hZ hO hlZ
    try simp only [Act.put, List.setIfInBounds_toArray, List.set_cons_succ, List.set_cons_zero]
    have HB4 := Lib.hid (HB3.out.trans (hO.below HB3.out.size fun k hk => Nat.le_of_eq hk.symm))
    refine takeL (.bool false) rfl (by go_simp) ?_
    try simp only [Act.put, List.setIfInBounds_toArray, List.set_cons_succ, List.set_cons_zero]
    refine wpList_nil ?_
    go_wp2_with fail
    refine bodyPost_ret (v := .tuple #[.agg #[.slice none 0 0, .slice none 0 0, .int .i64 0, .int .i64 0], .bool false]) (results_cell_tmp rfl _ _ w.heap.size 0 _ _ _ rfl rfl Tryz.underlying135 rfl info135 (hZ.all rfl)) rfl ⟨.inl ⟨HX.out, rfl⟩, HB4.out⟩
  · rw [hm, Bool.true_and] at HRP
    have HLY := Lib.hid fun w h => lay_yes pl (pl.map (·.1)) rfl hm n hn (.slice ia pn ic) w h
    clear hm
    have HLL := Lib.hid (lay2_length n (pl.map (·.1)))
    have HLB := Lib.hid (blocks_le (marks (pl.map (·.1))))
    have HLSM : Hid ((lay2 n (pl.map (·.1))).1.length ≤ 100000) := Lib.hid (by
      have h1 := HLL.out
      have h2 := HLB.out
      rw [List.length_map, List.length_map] at h2
      rw [List.length_map, HPN.out] at h1
      have h3 : parts pn ≤ pn + 1 := by unfold parts; omega
      have h4 := HPN.out
      omega)
    go_wp2_with fail
    refine (HLY.out _ HP2.out).mono ?_
    rintro e w3 ⟨s7, s8, rfl, ht⟩
    have HB3 := Lib.hid (stay HB2.out ht.b)
    have HR3 := Lib.hid (HR2.out.below ht.b HL2.out)
    have HI3 := Lib.hid (HI2.out.below ht.b)
    have HP3 := Lib.hid (HP2.out.below ht.b)
    have HS3 := Lib.hid ht.s.secs
    have HA3 := Lib.hid ht.a.ints
    have HN8 : Hid (∀ k, s8.ownBlock = some k → w.heap.size < k) := Lib.hid fun k hk => by have h1 := (ht.a.lt k hk).1; have h2 := HL2.out; omega
    have HL3 : Hid (w.heap.size < w3.heap.size) := Lib.hid (Nat.lt_of_lt_of_le HL2.out ht.b.size)
    have HCT : Hid (SecsAt w3 (.slice (cutA a 0 cap 64) t cap) (L.take t)) := Lib.hid (by
      have := HI3.out.cut 0 t (Nat.zero_le _) HTT (L.take t) (by simp)
      simpa using this)
    have HEQ := Lib.hid (equal_any s7 (.slice (cutA a 0 cap 64) t cap) (lay2 n (pl.map (·.1))).1 (L.take t) HLSM.out (by rw [List.length_take]; have := HN.out; omega) w3 HS3.out HCT.out)
    obtain ⟨a7, c7, hs7, -⟩ := ht.s.len
    obtain ⟨a8, c8, hs8⟩ := ht.a.ints.form
    subst hs7
    subst hs8
    have htc : t ≤ cap := by have := HCAP.out; omega
    obtain ⟨l7, hl7⟩ : ∃ m, (lay2 n (pl.map (·.1))).1.length = m := ⟨_, rfl⟩
    obtain ⟨l8, hl8⟩ : ∃ m, (lay2 n (pl.map (·.1))).2.length = m := ⟨_, rfl⟩
    rw [hl7] at HEQ ⊢
    rw [hl8] at HA3 HN8 ⊢
    have HL7 := Lib.hid hl7
    obtain ⟨S7, hS7⟩ : ∃ S, (lay2 n (pl.map (·.1))).1 = S := ⟨_, rfl⟩
    rw [hS7] at HEQ HRP
    clear ht HB2 HR2 HI2 HP2 HL2 HS3 HCT HLY hl7 hl8 hS7 HLL HLB
    go_upto_region 3 with fail
    refine wp_region_lit ?_
    refine takeL (.int .i64 0) rfl (by go_simp) ?_
    try simp only [Act.put, List.setIfInBounds_toArray, List.set_cons_succ, List.set_cons_zero]
    refine takeL (.bool false) rfl (by go_simp) ?_
    try simp only [Act.put, List.setIfInBounds_toArray, List.set_cons_succ, List.set_cons_zero]
    refine takeL (.bool false) rfl (by go_simp) ?_
    try simp only [Act.put, List.setIfInBounds_toArray, List.set_cons_succ, List.set_cons_zero]
    refine takeL (.slice a7 l7 c7) rfl (by go_simp) ?_
    try simp only [Act.put, List.setIfInBounds_toArray, List.set_cons_succ, List.set_cons_zero]
    refine takeL (.slice a N cap) rfl (by go_simp) ?_
    try simp only [Act.put, List.setIfInBounds_toArray, List.set_cons_succ, List.set_cons_zero]
    refine takeL (.int .i64 t) rfl (by go_simp) ?_
    try simp only [Act.put, List.setIfInBounds_toArray, List.set_cons_succ, List.set_cons_zero]
    refine takeL (.slice (cutA a 0 cap 64) t cap) rfl (exec_upto24 _ _ _ _ _ rfl a N cap t rfl rfl htc) ?_
    try simp only [Act.put, List.setIfInBounds_toArray, List.set_cons_succ, List.set_cons_zero]
    refine wpList_op rfl fun K hK => ?_
    go_simp
    refine (HEQ.out).mono ?_
    rintro e w4 ⟨rfl, hb⟩
    have HB4 := Lib.hid (stay HB3.out hb)
    have HR4 := Lib.hid (HR3.out.below hb HL3.out)
    have HP4 := Lib.hid (HP3.out.below hb)
    have HA4 := Lib.hid (HA3.out.below hb)
    clear hb HB3 HR3 HI3 HP3 HA3 HEQ
    refine hK _ _ ?_
    clear hK K
    try simp only [Act.put, List.setIfInBounds_toArray, List.set_cons_succ, List.set_cons_zero]
    by_cases hd : S7 = L.take t
    · have hdd : decide (S7 = L.take t) = true := decide_eq_true hd
      have HX : Hid (readP n L = some (pl.map (·.1))) := Lib.hid (by rw [HRP.out, if_pos hdd])
      rw [hdd]
      clear hd hdd HRP
      refine takeL (.bool false) rfl (by go_simp) ?_
      try simp only [Act.put, List.setIfInBounds_toArray, List.set_cons_succ, List.set_cons_zero]
      refine takeL (.bool false) rfl (by go_simp) ?_
      try simp only [Act.put, List.setIfInBounds_toArray, List.set_cons_succ, List.set_cons_zero]
      refine wpList_nil ?_
      go_upto_region 5 with fail
      refine wp_region_lit ?_
      refine takeL (.slice ia pn ic) rfl (by go_simp) ?_
      try simp only [Act.put, List.setIfInBounds_toArray, List.set_cons_succ, List.set_cons_zero]
      refine takeL (.slice a8 l8 c8) rfl (by go_simp) ?_
      try simp only [Act.put, List.setIfInBounds_toArray, List.set_cons_succ, List.set_cons_zero]
      refine takeL (.slice a7 l7 c7) rfl (by go_simp) ?_
      try simp only [Act.put, List.setIfInBounds_toArray, List.set_cons_succ, List.set_cons_zero]
      refine takeL (.int .i64 l7) rfl (by go_simp) ?_
      try simp only [Act.put, List.setIfInBounds_toArray, List.set_cons_succ, List.set_cons_zero]
      refine takeL (.slice ia pn ic) rfl (by go_simp) ?_
      try simp only [Act.put, List.setIfInBounds_toArray, List.set_cons_succ, List.set_cons_zero]
      refine wpList_op rfl fun K hK => ?_
      go_simp
      refine (HPA.out _).mono ?_
      rintro e w5 ⟨rfl, rfl⟩
      refine hK _ _ ?_
      clear hK K
      try simp only [Act.put, List.setIfInBounds_toArray, List.set_cons_succ, List.set_cons_zero]
      refine takeL (.agg #[.slice ia pn ic, .slice a8 l8 c8, .int .i64 l7, .int .i64 (parts pn)]) rfl (exec_build _ _ _ _ 135 _ rfl #[(0, .slice ia pn ic), (1, .slice a8 l8 c8), (2, .int .i64 l7), (3, .int .i64 (parts pn))] (by simp only [List.map_toArray, List.map_cons, List.map_nil]; rfl) _ (run_build w4 135 _ _ (built135 _ _ _ _ _ _ _ _))) ?_
      try simp only [Act.put, List.setIfInBounds_toArray, List.set_cons_succ, List.set_cons_zero]
      refine store_all (cs := #[.slice ia pn ic, .slice a8 l8 c8, .int .i64 l7, .int .i64 (parts pn)]) HR4.out rfl info135 (four_one _ _ _ _ _ _ _ _) rfl rfl rfl ?_
      intro w6 hZ hO hlZ
      try simp only [Act.put, List.setIfInBounds_toArray, List.set_cons_succ, List.set_cons_zero]
      have HB6 := Lib.hid (HB4.out.trans (hO.below HB4.out.size fun k hk => Nat.le_of_eq hk.symm))
      have HP6 := Lib.hid (HP4.out.only HR4.out (noIt4 none none 0 0 0 0 0 0) hO)
      have HA6 := Lib.hid (HA4.out.only hO fun b o n c e => Nat.ne_of_gt (HN8.out b (by rw [e]; rfl)))
      refine takeL (.bool true) rfl (by go_simp) ?_
      try simp only [Act.put, List.setIfInBounds_toArray, List.set_cons_succ, List.set_cons_zero]
      refine wpList_nil ?_
      go_wp2_with fail
      refine bodyPost_ret (v := .tuple #[.agg #[.slice ia pn ic, .slice a8 l8 c8, .int .i64 l7, .int .i64 (parts pn)], .bool true]) (results_cell_tmp rfl _ _ w.heap.size 0 _ _ _ rfl rfl Tryz.underlying135 rfl info135 (hZ.all rfl)) rfl ⟨.inr ⟨_, pl, _, HX.out, by rw [HL7.out, HPN.out], HP6.out, HA6.out, fun k hk => Nat.le_of_lt (HN8.out k hk), HFF.out.1, HFF.out.2⟩, HB6.out⟩
    · have hdd : decide (S7 = L.take t) = false := decide_eq_false hd
      have HX : Hid (readP n L = none) := Lib.hid (by rw [HRP.out, hdd]; exact if_neg Bool.false_ne_true)
      rw [hdd]
      clear hd hdd HRP
      refine takeL (.bool true) rfl (by go_simp) ?_
      try simp only [Act.put, List.setIfInBounds_toArray, List.set_cons_succ, List.set_cons_zero]
      refine takeL (.bool true) rfl (by go_simp) ?_
      try simp only [Act.put, List.setIfInBounds_toArray, List.set_cons_succ, List.set_cons_zero]
      refine wpList_nil ?_
      go_upto_region 4 with fail
      refine wp_region_lit ?_
      refine build_g (run_build _ 135 _ _ built135e) rfl ?_
      try simp only [Act.put, List.setIfInBounds_toArray, List.set_cons_succ, List.set_cons_zero]
      refine store_all (cs := #[.slice none 0 0, .slice none 0 0, .int .i64 0, .int .i64 0]) HR4.out rfl info135 (four_one none none 0 0 0 0 0 0) rfl rfl rfl ?_
      intro w6 hZ hO hlZ
      try simp only [Act.put, List.setIfInBounds_toArray, List.set_cons_succ, List.set_cons_zero]
      have HB6 := Lib.hid (HB4.out.trans (hO.below HB4.out.size fun k hk => Nat.le_of_eq hk.symm))
      refine takeL (.bool false) rfl (by go_simp) ?_
      try simp only [Act.put, List.setIfInBounds_toArray, List.set_cons_succ, List.set_cons_zero]
      refine wpList_nil ?_
      go_wp2_with fail
      refine bodyPost_ret (v := .tuple #[.agg #[.slice none 0 0, .slice none 0 0, .int .i64 0, .int .i64 0], .bool false]) (results_cell_tmp rfl _ _ w.heap.size 0 _ _ _ rfl rfl Tryz.underlying135 rfl info135 (hZ.all rfl)) rfl ⟨.inl ⟨HX.out, rfl⟩, HB6.out⟩

end Go.Proofs.YthlnmdihdcfphaaGreatDoor
