/- Package group's gather: the items that the parts tell of with which sectors begin. -/
import Derived.Test.YtbhaifdhmfmeoaaIof
import Derived.Test.YtbhaifdhmfmeoaaSdec
import Derived.Test.YtbhaifdhmfmeoaaMarks
namespace Go.Proofs.Ytbhaifdhmfmeoaa
set_option linter.unusedSimpArgs false
set_option linter.unusedVariables false
open Go.RowKit

theorem Blk.grown {w w' : World} {b : Nat} {l : List Value} {row : Option Nat} (h : Blk w b l) (hg : w.grownBy w' row) (hr : ∀ k, row = some k → k ≠ b) : Blk w' b l := h.of_block (hg.block b h.lt fun e => hr b e.symm rfl)
theorem MarksAt.grown {w w' : World} {sv : Value} {l : List Mk} {row : Option Nat} {B : Nat} (h : MarksAt w sv l) (hg : w.grownBy w' row) (hf : Fresh B sv) (hr : ∀ k, row = some k → k < B) : MarksAt w' sv l := by
  obtain ⟨a, cap, e, hc⟩ := h
  refine ⟨a, cap, e, fun i x hx => ?_⟩
  obtain ⟨b, o, e2, h1, h2⟩ := hc i x hx
  have hb := hg.block b (block_lt_of_cell h1) fun e3 => by
    have h3 := hr b e3.symm
    have h4 := hf b o _ _ (by rw [e, e2])
    omega
  exact ⟨b, o, e2, by rw [← h1]; simp only [World.cell?, hb], by rw [← h2]; simp only [World.cell?, hb]⟩
theorem zero100s : (Try.prog.info? 100).bind (·.zero) = some (.agg #[.int .u32 0, .bool false, .slice none 0 0]) := by kernel_rfl
theorem info100s : (Try.prog.info? 100).map (·.size) = some 3 := by kernel_rfl
theorem sum_one {w : World} {sv : Value} {l : List Mk} (h : MarksAt w sv l) (n : Int) (b : Bool) : ∀ v ∈ (#[.int .u32 n, .bool b, sv] : Array Value), v.oneCell' = true := by
  obtain ⟨a, cap, rfl, _⟩ := h
  intro v hv
  simp only [List.mem_toArray, List.mem_cons, List.not_mem_nil, or_false] at hv
  rcases hv with rfl | rfl | rfl <;> rfl
theorem gat_end {L : List (List Int)} {f t : Nat} {P : List It} (h : L.length ≤ t) : gat L (f + 1) P t = ([], 0) := by
  unfold gat
  rw [List.getElem?_eq_none h]
theorem gat_many {L : List (List Int)} {f t : Nat} {P : List It} (h : 64 < P.length) : gat L (f + 1) P t = ([], 0) := by
  unfold gat
  cases L[t]? with
  | none => rfl
  | some y => simp only; rw [if_neg (by omega)]
theorem gat_nosum {L : List (List Int)} {f t : Nat} {P : List It} {y : List Int} (hy : L[t]? = some y) (h : isSum y = false) : gat L (f + 1) P t = ([], 0) := by
  unfold gat
  rw [hy]
  simp [h]
theorem gat_none {L : List (List Int)} {f t : Nat} {P : List It} {y : List Int} (hy : L[t]? = some y) (hi : itemsP (sreadOf y).marks (L.drop (t + 1)) = none) : gat L (f + 1) P t = ([], 0) := by
  unfold gat
  rw [hy]
  simp only [hi]
  split <;> rfl
theorem gat_some {L : List (List Int)} {f t : Nat} {P p : List It} {y : List Int} (hy : L[t]? = some y) (h : isSum y = true) (hP : P.length ≤ 64) (hi : itemsP (sreadOf y).marks (L.drop (t + 1)) = some p) : gat L (f + 1) P t = if (sreadOf y).more then gat L f (P ++ p) (t + (1 + blocks (sreadOf y).marks)) else (P ++ p, t + (1 + blocks (sreadOf y).marks)) := by
  conv => lhs; unfold gat
  rw [hy]
  simp only [h, hP, and_self, if_true, hi]
theorem itemsP_len {ms : List Mk} {S : List (List Int)} {p : List It} (h : itemsP ms S = some p) : p.length = ms.length ∧ blocks ms ≤ S.length := by
  induction ms generalizing S p with
  | nil => cases h; exact ⟨rfl, by simp [blocks]⟩
  | cons m r ih =>
    unfold itemsP at h
    split at h
    · rename_i hh
      cases S with
      | nil => cases h
      | cons y t =>
        simp only at h
        split at h
        · obtain ⟨q, hq, rfl⟩ := Option.map_eq_some_iff.1 h
          obtain ⟨h1, h2⟩ := ih hq
          simp only [List.length_cons, blocks, hh, if_true]
          omega
        · cases h
    · rename_i hh
      obtain ⟨q, hq, rfl⟩ := Option.map_eq_some_iff.1 h
      obtain ⟨h1, h2⟩ := ih hq
      simp only [List.length_cons, blocks]
      rw [if_neg hh]
      omega
theorem sum_good {y : List Int} (h : isSum y = true) : goodMarks (sreadOf y).marks = true := by
  unfold isSum at h
  rw [Bool.and_eq_true] at h
  exact h.1
/-- What gather hands back. -/
def GatOut (r : List It × Nat) (e : Ending) (w' : World) : Prop := ∃ iv pl, r.1 = pl.map (·.1) ∧ e = .returned (.tuple #[iv, .int .i64 r.2]) ∧ ItemsAt w' iv pl
theorem GatOut.none {r : List It × Nat} {w' : World} (h : r = ([], 0)) : GatOut r (.returned (.tuple #[.slice Option.none 0 0, .int .i64 0])) w' := by
  subst h
  exact ⟨_, [], rfl, rfl, ItemsAt.nil _ _ _⟩
set_option maxRecDepth 100000 in
set_option maxHeartbeats 4000000 in
theorem gather_any (L : List (List Int)) (N : Nat) (hN : L.length = N) (hNN : N ≤ 100000) (sv : Value) (w : World) (h : SecsAt w sv L) : Calls Try.prog 36 #[sv] w fun e w' => GatOut (gather L) e w' ∧ Below w.heap.size w w' := by
  obtain ⟨a, cap, rfl, hcap, hc⟩ := id h
  have HS := Lib.hid h
  rw [hN] at HS ⊢
  have HC := Lib.hid hc
  have HN := Lib.hid hN
  have HG : Hid (gat L (N + 1) [] 0 = gather L) := Lib.hid (by unfold gather; rw [hN])
  have HCAP : Hid (N ≤ cap) := Lib.hid (by omega)
  clear h hc hN hcap
  go_enter Try.func36, Try.ntmps36
  go_wp2_with fail
  go_loopg [2, 3] N (fun q u2 u3 wr => ∃ (t f : Nat) (s2 : Value) (P : List (It × Value)), s2 = u2 ∧ N - t ≤ q ∧ t ≤ N ∧ N < t + f ∧ u3 = .int .i64 t ∧ P.length ≤ 88 ∧ gat L f (P.map (·.1)) t = gather L ∧ OwnI wr w.heap.size s2 P ∧ Below w.heap.size w wr)
  case atStart => exact ⟨0, N + 1, _, [], rfl, by omega, by omega, by omega, rfl, by simp, HG.out, OwnI.nil _ _, Below.refl _ _⟩
  case round =>
    obtain ⟨t, f, s2, P, rfl, hq, ht, hf, rfl, hP, hg, ho, hb⟩ := hrel
    obtain ⟨f, rfl⟩ : ∃ g, f = g + 1 := ⟨f - 1, by omega⟩
    obtain ⟨a2, c2, hs2, -⟩ := ho.len
    subst hs2
    have HO := Lib.hid ho
    have HB := Lib.hid hb
    have HGT := Lib.hid hg
    obtain ⟨pn, hpn⟩ : ∃ p, P.length = p := ⟨_, rfl⟩
    rw [hpn] at HO hP
    rw [hpn]
    have HPN := Lib.hid hpn
    clear hg ho hb HG hpn
    by_cases hlt : t < N
    · by_cases hpl : 64 < pn
      · have HX : Hid (gather L = ([], 0)) := Lib.hid (by rw [← HGT.out]; exact gat_many (by rw [List.length_map, HPN.out]; exact hpl))
        have g1 : decide ((t : Int) < (N : Int)) = true := decide_eq_true (by omega)
        have g2 : decide ((pn : Int) ≤ 64) = false := decide_eq_false (by omega)
        go_wp2_with fail
        first | go_ret2 | go_ret
        exact ⟨GatOut.none HX.out, HB.out⟩
      have g1 : decide ((t : Int) < (N : Int)) = true := decide_eq_true (by omega)
      have g2 : decide ((pn : Int) ≤ 64) = true := decide_eq_true (by omega)
      have ht0 : (t : Int) < (N : Int) := by omega
      have hp64 : pn ≤ 64 := by omega
      obtain ⟨y, hy⟩ : ∃ y, L[t]? = some y := ⟨_, List.getElem?_eq_getElem (by have := HN.out; omega)⟩
      obtain ⟨y1, yg, yo, rfl, y2⟩ := HC.out t y hy
      have HYK := Lib.hid hy
      have HY := Lib.hid (y2.below HB.out (y2.lt (by rw [y1.size]; decide)))
      have HYS := Lib.hid y1.size
      have HDE := Lib.hid fun w => sdecode_any y y1 w
      have HREST := Lib.hid (HS.out.cut (t + 1) N (by omega) (Nat.le_refl _) (L.drop (t + 1)) (by rw [List.take_of_length_le (by rw [List.length_drop, HN.out]; omega)]))
      clear y1 y2 hy hpl hlt
      go_upto_region 2 with fail
      refine wp_region_lit ?_
      refine takeL (.slice (some ⟨yg, yo, none⟩) N cap) rfl (by go_simp) ?_
      try simp only [Act.put, List.setIfInBounds_toArray, List.set_cons_succ, List.set_cons_zero]
      refine takeL (.int .i64 t) rfl (by go_simp) ?_
      try simp only [Act.put, List.setIfInBounds_toArray, List.set_cons_succ, List.set_cons_zero]
      refine takeL (.pointer (some ⟨yg, yo + t * 64, none⟩)) rfl (by go_simp) ?_
      try simp only [Act.put, List.setIfInBounds_toArray, List.set_cons_succ, List.set_cons_zero]
      refine load50 (cs := (u8s y).toArray) HY.out HYS.out rfl rfl ?_
      try simp only [Act.put, List.setIfInBounds_toArray, List.set_cons_succ, List.set_cons_zero]
      refine wpList_op rfl fun K hK => ?_
      go_simp
      refine (HDE.out _).mono ?_
      rintro e w2 ⟨mv, rfl, hm, hb, hfr⟩
      have HO2 := Lib.hid (HO.out.below hb)
      have HB2 := Lib.hid (stay HB.out hb)
      have HM := Lib.hid hm
      have HFR := Lib.hid hfr
      have HLT := Lib.hid fun k hk => (HO.out.lt k hk).2
      clear hm hb hfr HO HB HY HDE
      refine hK _ _ ?_
      clear hK K
      try simp only [Act.put, List.setIfInBounds_toArray, List.set_cons_succ, List.set_cons_zero]
      refine takeL (.tuple #[.agg #[.int .u32 (decS y).seq, .bool (decS y).more, mv], .int .i64 (sdecE y)]) rfl (by go_simp) ?_
      try simp only [Act.put, List.setIfInBounds_toArray, List.set_cons_succ, List.set_cons_zero]
      refine takeL (.agg #[.int .u32 (decS y).seq, .bool (decS y).more, mv]) rfl (by go_simp) ?_
      try simp only [Act.put, List.setIfInBounds_toArray, List.set_cons_succ, List.set_cons_zero]
      refine takeL (.int .i64 (sdecE y)) rfl (by go_simp) ?_
      try simp only [Act.put, List.setIfInBounds_toArray, List.set_cons_succ, List.set_cons_zero]
      refine alloc_g zero100s rfl ?_
      intro w3 hA hb hl
      try simp only [Act.put, List.setIfInBounds_toArray, List.set_cons_succ, List.set_cons_zero]
      refine store_all (cs := #[.int .u32 (decS y).seq, .bool (decS y).more, mv]) hA rfl info100s (sum_one HM.out _ _) rfl rfl rfl ?_
      intro w4 hD hO hlD
      try simp only [Act.put, List.setIfInBounds_toArray, List.set_cons_succ, List.set_cons_zero]
      have hbb : Below w2.heap.size w2 w4 := hb.trans (hO.below hb.size fun k hk => Nat.le_of_eq hk.symm)
      have HO4 := Lib.hid (HO2.out.below hbb)
      have HB4 := Lib.hid (stay HB2.out hbb)
      have HM4 := Lib.hid (HM.out.below hbb)
      have HV4 := Lib.hid hD
      have HNE : Hid (∀ k, Value.ownBlock (.slice a2 pn c2) = some k → k < w2.heap.size) := Lib.hid fun k hk => (HO2.out.lt k hk).2
      generalize w2.heap.size = b4 at *
      clear hA hb hl hD hO hlD hbb HO2 HB2 HM
      refine takeL (.int .i64 (sdecE y)) rfl (by go_simp) ?_
      try simp only [Act.put, List.setIfInBounds_toArray, List.set_cons_succ, List.set_cons_zero]
      refine wpList_nil ?_
      cases hs : isSum y
      · have HX : Hid (gather L = ([], 0)) := Lib.hid (by rw [← HGT.out]; exact gat_nosum HYK.out hs)
        rw [(decS_no hs).2]
        clear hs
        go_wp2_with fail
        first | go_ret2 | go_ret
        exact ⟨GatOut.none HX.out, HB4.out⟩
      have HSUM := Lib.hid hs
      have hgm := sum_good hs
      have HMG := Lib.hid hgm
      rw [(decS_yes hs).1] at HM4 HV4
      rw [(decS_yes hs).2, (decS_yes hs).1]
      clear hs
      obtain ⟨ms, hms⟩ : ∃ ms, (sreadOf y).marks = ms := ⟨_, rfl⟩
      rw [hms] at HM4 HMG
      have HMS := Lib.hid hms
      have hml := (good_len HMG.out).2
      have HBL := Lib.hid fun w h => blocks_any mv ms (by omega) w h
      have HIO := Lib.hid fun w h1 h2 => itemsOf_any ms (good_ok HMG.out) ms.length rfl hml (L.drop (t + 1)) (by rw [List.length_drop, HN.out]; omega) mv (.slice (cutA (some ⟨yg, yo, none⟩) (t + 1) cap 64) (N - (t + 1)) (cap - (t + 1))) w h1 h2
      have hbl := blocks_le ms
      obtain ⟨bn, hbn⟩ : ∃ b, blocks ms = b := ⟨_, rfl⟩
      rw [hbn] at hbl HBL
      have HBN := Lib.hid hbn
      have hb24 : bn ≤ 24 := by omega
      obtain ⟨mo, hmo⟩ : ∃ m, (sreadOf y).more = m := ⟨_, rfl⟩
      have HMO := Lib.hid hmo
      rw [hmo] at HV4 ⊢
      clear hms hgm hml hbl hbn hmo
      have cv1 : w4.cell? ⟨b4, 1, none⟩ = some (.bool mo) := HV4.out.cell rfl
      have cv2 : w4.cell? ⟨b4, 2, none⟩ = some mv := HV4.out.cell rfl
      go_upto_region 5 with fail
      refine startH (fun wq => Below w4.heap.size w4 wq) (by kernel_rfl) ?_
      refine takeH 0 (some 28) (.pointer (some ⟨b4, 2, none⟩)) rfl rfl (by kernel_rfl) (by kernel_rfl) (by kernel_rfl) (fun _ _ _ h => h) rfl (fun wq hS => by go_simp) (Below.refl _ _).drew ?_
      try simp only [Act.put, List.setIfInBounds_toArray, List.set_cons_succ, List.set_cons_zero]
      refine takeH 1 (some 29) (mv) rfl rfl (by kernel_rfl) (by kernel_rfl) (by kernel_rfl) (fun _ _ _ h => h) rfl (fun wq hS => by have q : wq.cell? ⟨b4, 2, none⟩ = some mv := (HV4.out.below hS HV4.out.lt).cell rfl; go_simp) (Below.refl _ _).drew ?_
      try simp only [Act.put, List.setIfInBounds_toArray, List.set_cons_succ, List.set_cons_zero]
      refine takeH 2 (some 30) (.slice (some ⟨yg, yo, none⟩) N cap) rfl rfl (by kernel_rfl) (by kernel_rfl) (by kernel_rfl) (fun _ _ _ h => h) rfl (fun wq hS => by go_simp) (Below.refl _ _).drew ?_
      try simp only [Act.put, List.setIfInBounds_toArray, List.set_cons_succ, List.set_cons_zero]
      refine takeH 3 (some 31) (.int .i64 t) rfl rfl (by kernel_rfl) (by kernel_rfl) (by kernel_rfl) (fun _ _ _ h => h) rfl (fun wq hS => by go_simp) (Below.refl _ _).drew ?_
      try simp only [Act.put, List.setIfInBounds_toArray, List.set_cons_succ, List.set_cons_zero]
      refine takeH 4 (some 32) (.int .i64 ((t + 1 : Nat) : Int)) rfl rfl (by kernel_rfl) (by kernel_rfl) (by kernel_rfl) (fun _ _ _ h => h) rfl (fun wq hS => by go_simp; exact wrap64 (by omega) (by omega)) (Below.refl _ _).drew ?_
      try simp only [Act.put, List.setIfInBounds_toArray, List.set_cons_succ, List.set_cons_zero]
      refine takeH 5 (some 33) (.slice (cutA (some ⟨yg, yo, none⟩) (t + 1) cap 64) (N - (t + 1)) (cap - (t + 1))) rfl rfl (by kernel_rfl) (by kernel_rfl) (by kernel_rfl) (fun _ _ _ h => h) rfl (fun wq hS => by exact exec_from24 wq _ _ _ _ rfl (some ⟨yg, yo, none⟩) N cap (t + 1) rfl rfl (by omega)) (Below.refl _ _).drew ?_
      try simp only [Act.put, List.setIfInBounds_toArray, List.set_cons_succ, List.set_cons_zero]
      refine oneH 6 (by kernel_rfl) rfl rfl fun K hK => ?_
      go_simp
      refine (HIO.out _ (HM4.out.below (Below.refl _ _).drew) (HREST.out.below (HB4.out.drew))).mono ?_
      rintro e w6 ⟨hio, hb⟩
      have HS6 := Lib.hid (stay (Below.refl w4.heap.size w4).drew hb)
      have HB6 := Lib.hid (stay HB4.out HS6.out)
      have HO6 := Lib.hid (HO4.out.below HS6.out)
      have HM6 := Lib.hid (HM4.out.below HS6.out)
      have HV6 := Lib.hid (HV4.out.below HS6.out HV4.out.lt)
      have HL4 := Lib.hid HV4.out.lt
      clear cv1 cv2 hb HB4 HO4 HM4 HV4
      rcases hio with ⟨h1, rfl⟩ | ⟨iv, pl, h1, rfl, h2, h3⟩
      · have HX : Hid (gather L = ([], 0)) := Lib.hid (by rw [← HGT.out]; exact gat_none HYK.out (by rw [HMS.out]; exact h1))
        clear h1
        refine hK _ _ HS6.out ?_
        clear hK K
        try simp only [Act.put, List.setIfInBounds_toArray, List.set_cons_succ, List.set_cons_zero]
        refine takeH 7 (some 27) (.tuple #[.slice none 0 0, .bool false]) rfl rfl (by kernel_rfl) (by kernel_rfl) (by kernel_rfl) (fun _ _ _ h => h) rfl (fun wq hS => by go_simp) HS6.out ?_
        try simp only [Act.put, List.setIfInBounds_toArray, List.set_cons_succ, List.set_cons_zero]
        refine takeH 8 (some 35) (.slice none 0 0) rfl rfl (by kernel_rfl) (by kernel_rfl) (by kernel_rfl) (fun _ _ _ h => h) rfl (fun wq hS => by go_simp) HS6.out ?_
        try simp only [Act.put, List.setIfInBounds_toArray, List.set_cons_succ, List.set_cons_zero]
        refine takeH 9 (some 36) (.bool false) rfl rfl (by kernel_rfl) (by kernel_rfl) (by kernel_rfl) (fun _ _ _ h => h) rfl (fun wq hS => by go_simp) HS6.out ?_
        try simp only [Act.put, List.setIfInBounds_toArray, List.set_cons_succ, List.set_cons_zero]
        refine takeH 10 (some 6) (.slice none 0 0) rfl rfl (by kernel_rfl) (by kernel_rfl) (by kernel_rfl) (fun _ _ _ h => h) rfl (fun wq hS => by go_simp) HS6.out ?_
        try simp only [Act.put, List.setIfInBounds_toArray, List.set_cons_succ, List.set_cons_zero]
        refine takeH 11 (some 7) (.bool false) rfl rfl (by kernel_rfl) (by kernel_rfl) (by kernel_rfl) (fun _ _ _ h => h) rfl (fun wq hS => by go_simp) HS6.out ?_
        try simp only [Act.put, List.setIfInBounds_toArray, List.set_cons_succ, List.set_cons_zero]
        refine wpAnyH_done (by kernel_rfl) ?_ _
        go_wp2_with fail
        first | go_ret2 | go_ret
        exact ⟨GatOut.none HX.out, HB6.out⟩
      · have hlen := itemsP_len h1
        rw [List.length_map, HBN.out, List.length_drop, HN.out] at hlen
        obtain ⟨hl1, hl2⟩ := hlen
        have hl3 : pl.length ≤ 24 := by have := (good_len HMG.out).2; omega
        have HSOME := Lib.hid (gat_some (L := L) (f := f) (P := P.map (·.1)) HYK.out HSUM.out (by rw [List.length_map, HPN.out]; exact hp64) (by rw [HMS.out]; exact h1))
        have H2 := Lib.hid h2
        have H3 := Lib.hid h3
        have HL3 := Lib.hid hl3
        have hl4 : t + (1 + bn) ≤ N := by omega
        clear h1 h2 h3 hl1 hl2 hl3
        refine hK _ _ HS6.out ?_
        clear hK K
        try simp only [Act.put, List.setIfInBounds_toArray, List.set_cons_succ, List.set_cons_zero]
        refine takeH 7 (some 27) (.tuple #[iv, .bool true]) rfl rfl (by kernel_rfl) (by kernel_rfl) (by kernel_rfl) (fun _ _ _ h => h) rfl (fun wq hS => by go_simp) HS6.out ?_
        try simp only [Act.put, List.setIfInBounds_toArray, List.set_cons_succ, List.set_cons_zero]
        refine takeH 8 (some 35) (iv) rfl rfl (by kernel_rfl) (by kernel_rfl) (by kernel_rfl) (fun _ _ _ h => h) rfl (fun wq hS => by go_simp) HS6.out ?_
        try simp only [Act.put, List.setIfInBounds_toArray, List.set_cons_succ, List.set_cons_zero]
        refine takeH 9 (some 36) (.bool true) rfl rfl (by kernel_rfl) (by kernel_rfl) (by kernel_rfl) (fun _ _ _ h => h) rfl (fun wq hS => by go_simp) HS6.out ?_
        try simp only [Act.put, List.setIfInBounds_toArray, List.set_cons_succ, List.set_cons_zero]
        refine takeH 10 (some 6) (iv) rfl rfl (by kernel_rfl) (by kernel_rfl) (by kernel_rfl) (fun _ _ _ h => h) rfl (fun wq hS => by go_simp) HS6.out ?_
        try simp only [Act.put, List.setIfInBounds_toArray, List.set_cons_succ, List.set_cons_zero]
        refine takeH 11 (some 7) (.bool true) rfl rfl (by kernel_rfl) (by kernel_rfl) (by kernel_rfl) (fun _ _ _ h => h) rfl (fun wq hS => by go_simp) HS6.out ?_
        try simp only [Act.put, List.setIfInBounds_toArray, List.set_cons_succ, List.set_cons_zero]
        refine wpAnyH_done (by kernel_rfl) ?_ _
        go_upto_region 8 with fail
        refine wp_region_lit ?_
        refine takeL (.slice a2 pn c2) rfl (by go_simp) ?_
        try simp only [Act.put, List.setIfInBounds_toArray, List.set_cons_succ, List.set_cons_zero]
        refine takeL (iv) rfl (by go_simp) ?_
        try simp only [Act.put, List.setIfInBounds_toArray, List.set_cons_succ, List.set_cons_zero]
        refine app_LI HO6.out HB6.out.size H2.out (fun x hx => Off.fresh (H3.out x hx) fun k hk => Nat.lt_trans (HNE.out k hk) HL4.out) (by have := HL3.out; have := HPN.out; omega) rfl rfl rfl ?_
        intro s7 w7 ho7 hg7 hr7
        try simp only [Act.put, List.setIfInBounds_toArray, List.set_cons_succ, List.set_cons_zero]
        have HB7 := Lib.hid (HB6.out.trans (grown_below hg7 HB6.out.size fun k hk => (HO6.out.lt k hk).1))
        have HO7 := Lib.hid ho7
        have HV7 := Lib.hid (HV6.out.grown hg7 fun k hk => Nat.ne_of_lt (HNE.out k hk))
        have HM7 := Lib.hid (HM6.out.grown hg7 HFR.out fun k hk => HLT.out k hk)
        clear ho7 hg7 hr7 HB6 HO6 HV6 HM6
        refine takeL (s7) rfl (by go_simp) ?_
        try simp only [Act.put, List.setIfInBounds_toArray, List.set_cons_succ, List.set_cons_zero]
        refine wpList_nil ?_
        have cv1 : w7.cell? ⟨b4, 1, none⟩ = some (.bool mo) := HV7.out.cell rfl
        have cv2 : w7.cell? ⟨b4, 2, none⟩ = some mv := HV7.out.cell rfl
        go_wp2_with fail
        refine (HBL.out _ HM7.out).mono ?_
        rintro e w8 ⟨rfl, hb⟩
        have HB8 := Lib.hid (stay HB7.out hb)
        have HO8 := Lib.hid (HO7.out.below hb)
        have HV8 := Lib.hid (HV7.out.below hb HV7.out.lt)
        clear hb HB7 HO7 HV7 HM7 cv1 cv2
        have cv1 : w8.cell? ⟨b4, 1, none⟩ = some (.bool mo) := HV8.out.cell rfl
        rw [HMO.out, HMS.out, HBN.out] at HSOME
        cases mo
        · have HX : Hid (gather L = ((P ++ pl).map (·.1), t + (1 + bn))) := Lib.hid (by rw [← HGT.out, HSOME.out]; simp)
          go_wp2_with fail
          first | go_ret2 | go_ret
          exact ⟨⟨_, P ++ pl, by rw [HX.out], by rw [HX.out]; simp, HO8.out.items⟩, HB8.out⟩
        · have HX : Hid (gat L f ((P ++ pl).map (·.1)) (t + (1 + bn)) = gather L) := Lib.hid (by rw [← HGT.out, HSOME.out]; simp)
          have hpl2 : Hid ((P ++ pl).length ≤ 88) := Lib.hid (by rw [List.length_append, HPN.out]; have := HL3.out; omega)
          have hti : Hid ((t : Int) + (1 + (bn : Int)) = ((t + (1 + bn) : Nat) : Int)) := Lib.hid (by omega)
          go_wp2_with fail
          go_roundg (N - (t + (1 + bn)))
          case measure => omega
          case rel => exact ⟨t + (1 + bn), f, s7, P ++ pl, rfl, by omega, hl4, by omega, by rw [← hti.out], hpl2.out, HX.out, by simpa using HO8.out, HB8.out⟩
    · obtain rfl : t = N := by omega
      have HX : Hid (gather L = ([], 0)) := Lib.hid (by rw [← HGT.out]; exact gat_end (by rw [HN.out]; exact Nat.le_refl _))
      have g1 : decide ((t : Int) < (t : Int)) = false := decide_eq_false (by omega)
      go_wp2_with fail
      first | go_ret2 | go_ret
      exact ⟨GatOut.none HX.out, HB.out⟩

end Go.Proofs.Ytbhaifdhmfmeoaa
