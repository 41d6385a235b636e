/- Pages written and cleaned. -/
import Derived.Test.YtaemjglblfencaaGreatDoorFf
namespace Go.Proofs.YtaemjglblfencaaGreatDoor
set_option linter.unusedSimpArgs false
set_option linter.unusedVariables false
open Go.RowKit Kl

theorem Write_nil (p off : Int) (sv : Value) (w : World) : Calls Tryz.prog 14 #[.pointer none, .int .i64 p, .int .i64 off, sv] w fun e w' => e = .returned (.int .i64 1) ∧ w = w' := by
  go_enter Tryz.func14, Tryz.ntmps14
  go_wp2_with fail
  go_ret
  exact ⟨rfl, rfl⟩
set_option maxRecDepth 100000 in
theorem Write_none {L : Lay} (p off : Int) (sv : Value) (w : World) (hc : ∀ w', Below w.heap.size w w' → Calls Tryz.prog 37 #[.pointer (some ⟨L.b, 0, none⟩), .int .i64 p] w' fun e w'' => e = .returned (.tuple #[.int .i64 0, .pointer none]) ∧ Below w'.heap.size w' w'') : Calls Tryz.prog 14 #[.pointer (some ⟨L.b, 0, none⟩), .int .i64 p, .int .i64 off, sv] w fun e w' => e = .returned (.int .i64 17) ∧ Below w.heap.size w w' := by
  have HC := Lib.hid hc
  clear hc
  go_enter Tryz.func14, Tryz.ntmps14
  go_wp2_with fail
  refine (HC.out _ (Below.refl _ _)).mono ?_
  rintro e w1 ⟨rfl, hb⟩
  have HB1 := Lib.hid hb
  clear hb
  go_wp2_with fail
  go_ret
  exact ⟨rfl, HB1.out⟩
set_option maxRecDepth 100000 in
theorem Write_no {L : Lay} {g k : Nat} {key : Int} {x : Hd} (p off : Int) (sv : Value) (l : List Int) (hl : l.length ≤ 1000) (hf : ¬ Fits off l) (hx : x.Ok) (w : World) (hg : Blk w g (encH key x)) (hbs : BytesAt w sv l) (hev : ErrVar w) (hc : ∀ w', Below w.heap.size w w' → Calls Tryz.prog 37 #[.pointer (some ⟨L.b, 0, none⟩), .int .i64 p] w' fun e w'' => e = .returned (.tuple #[.int .i64 k, .pointer (some ⟨g, 0, none⟩)]) ∧ Below w'.heap.size w' w'') : Calls Tryz.prog 14 #[.pointer (some ⟨L.b, 0, none⟩), .int .i64 p, .int .i64 off, sv] w fun e w' => e = .returned (.int .i64 18) ∧ Below w.heap.size w w' := by
  have HC := Lib.hid hc
  have HX := Lib.hid hx
  have HG0 := Lib.hid hg
  have HAP := Lib.hid fun (w' : World) (hb : Below w.heap.size w w') => apply_no x.now l hx.now.length off sv hl hf w' (hbs.below hb) (hev.below (Nat.le_refl _) hb)
  have HZ32 := Lib.hid (zeros_length 32)
  clear hc hx hg hl hf hbs hev
  go_enter Tryz.func14, Tryz.ntmps14
  go_wp2_with fail
  refine (HC.out _ (Below.refl _ _)).mono ?_
  rintro e w1 ⟨rfl, hb⟩
  have HB1 := Lib.hid hb
  have HG := Lib.hid (HG0.out.below hb HG0.out.lt)
  clear hb
  go_upto_region 6 with fail
  refine wp_region_lit ?_
  refine takeL (.pointer (some ⟨g, 0, none⟩)) rfl (by go_simp) ?_
  try simp only [Act.put, List.setIfInBounds_toArray, List.set_cons_succ, List.set_cons_zero]
  refine takeL (.pointer (some ⟨g, 0, none⟩)) rfl (by go_simp) ?_
  try simp only [Act.put, List.setIfInBounds_toArray, List.set_cons_succ, List.set_cons_zero]
  refine takeL (.pointer (some ⟨g, 33, none⟩)) rfl (by go_simp) ?_
  try simp only [Act.put, List.setIfInBounds_toArray, List.set_cons_succ, List.set_cons_zero]
  refine load39 (cs := (u8s x.now).toArray) (encH_now HX.out HG.out) (by rw [u8s_size, HX.out.now.length]) rfl rfl ?_
  try simp only [Act.put, List.setIfInBounds_toArray, List.set_cons_succ, List.set_cons_zero]
  refine takeL (.int .i64 off) rfl (by go_simp) ?_
  try simp only [Act.put, List.setIfInBounds_toArray, List.set_cons_succ, List.set_cons_zero]
  refine takeL (sv) rfl (by go_simp) ?_
  try simp only [Act.put, List.setIfInBounds_toArray, List.set_cons_succ, List.set_cons_zero]
  refine wpList_op rfl fun K hK => ?_
  go_simp
  refine (HAP.out _ HB1.out).mono ?_
  rintro e w2 ⟨rfl, hb⟩
  have HB2 := Lib.hid (stay HB1.out hb)
  have HG2 := Lib.hid (HG.out.below hb HG.out.lt)
  clear hb HG
  refine hK _ _ ?_
  clear hK K
  try simp only [Act.put, List.setIfInBounds_toArray, List.set_cons_succ, List.set_cons_zero]
  refine takeL (.tuple #[.agg (u8s (zeros 32)).toArray, .int .i64 1]) rfl (by go_simp) ?_
  try simp only [Act.put, List.setIfInBounds_toArray, List.set_cons_succ, List.set_cons_zero]
  refine takeL (.agg (u8s (zeros 32)).toArray) rfl (by go_simp) ?_
  try simp only [Act.put, List.setIfInBounds_toArray, List.set_cons_succ, List.set_cons_zero]
  refine takeL (.int .i64 1) rfl (by go_simp) ?_
  try simp only [Act.put, List.setIfInBounds_toArray, List.set_cons_succ, List.set_cons_zero]
  refine alloc_g zero39 rfl ?_
  intro w3 hA hb hl
  try simp only [Act.put, List.setIfInBounds_toArray, List.set_cons_succ, List.set_cons_zero]
  refine store_all (cs := (u8s (zeros 32)).toArray) hA (by simp only [u8s_size, List.size_toArray, List.length_map, HZ32.out, HZ32.out]) (by rw [u8s_size, HZ32.out]; exact info39) (u8s_one _) rfl rfl rfl ?_
  intro w4 hD hO hlD
  try simp only [Act.put, List.setIfInBounds_toArray, List.set_cons_succ, List.set_cons_zero]
  have hbb : Below w2.heap.size w2 w4 := hb.trans (hO.below hb.size fun k hk => Nat.le_of_eq hk.symm)
  have HB4 := Lib.hid (stay HB2.out hbb)
  have HG4 := Lib.hid (HG2.out.below hbb HG2.out.lt)
  have HD4 : Hid (Blk w4 w2.heap.size (u8s (zeros 32))) := Lib.hid (by simpa using hD)
  have HN4 : Hid (g ≠ w2.heap.size) := Lib.hid (Nat.ne_of_lt HG2.out.lt)
  clear hA hb hl hD hO hlD hbb
  refine takeL (.int .i64 1) rfl (by go_simp) ?_
  try simp only [Act.put, List.setIfInBounds_toArray, List.set_cons_succ, List.set_cons_zero]
  refine wpList_nil ?_
  go_wp2_with fail
  go_ret
  exact ⟨rfl, HB4.out⟩
set_option maxRecDepth 100000 in
theorem Write_yes {B : Nat} {w : World} {L : Lay} {ps : List (Option Nat)} {s : Fs} (h : FAt w L ps s) (ho : s.Ok B) {g k : Nat} {f : Fm} {x : Hd} (p : Int) (o : Nat) (sv : Value) (l : List Int) (hl : l.length ≤ 1000) (hf : Fits o l) (hx : x.Ok) (hfk : s.c.l[k]? = some f) (hxk : s.h[k]? = some x) (hgk : ps[k]? = some (some g)) (hg : Blk w g (encH f.key x)) (hbs : BytesAt w sv l) (hev : ErrVar w) (hc : ∀ w', Below w.heap.size w w' → Calls Tryz.prog 37 #[.pointer (some ⟨L.b, 0, none⟩), .int .i64 p] w' fun e w'' => e = .returned (.tuple #[.int .i64 k, .pointer (some ⟨g, 0, none⟩)]) ∧ Below w'.heap.size w' w'') : Calls Tryz.prog 14 #[.pointer (some ⟨L.b, 0, none⟩), .int .i64 p, .int .i64 o, sv] w fun e w' => e = .returned (.int .i64 0) ∧ Held w w' L ps { (s.turn k fun x => { x with now := layI x.now o l }) with c := s.c.touch k } := by
  have HC := Lib.hid hc
  have HX := Lib.hid hx
  have HG0 := Lib.hid hg
  have HAP := Lib.hid fun (w' : World) (hb : Below w.heap.size w w') => apply_yes x.now l hx.now.length o sv hl hf w' (hbs.below hb) (hev.below (Nat.le_refl _) hb)
  have HZ32 := Lib.hid (zeros_length 32)
  have HLY := Lib.hid (lay_size hx.now.length o hf)
  have HA := Lib.hid h
  have HO := Lib.hid ho
  have HFK := Lib.hid hfk
  have HXK := Lib.hid hxk
  have HGK := Lib.hid hgk
  clear hc hx hg hl hf hbs hev h ho hfk hxk hgk
  go_enter Tryz.func14, Tryz.ntmps14
  go_wp2_with fail
  refine (HC.out _ (Below.refl _ _)).mono ?_
  rintro e w1 ⟨rfl, hb⟩
  have HB1 := Lib.hid hb
  have HG := Lib.hid (HG0.out.below hb HG0.out.lt)
  clear hb
  go_upto_region 6 with fail
  refine wp_region_lit ?_
  refine takeL (.pointer (some ⟨g, 0, none⟩)) rfl (by go_simp) ?_
  try simp only [Act.put, List.setIfInBounds_toArray, List.set_cons_succ, List.set_cons_zero]
  refine takeL (.pointer (some ⟨g, 0, none⟩)) rfl (by go_simp) ?_
  try simp only [Act.put, List.setIfInBounds_toArray, List.set_cons_succ, List.set_cons_zero]
  refine takeL (.pointer (some ⟨g, 33, none⟩)) rfl (by go_simp) ?_
  try simp only [Act.put, List.setIfInBounds_toArray, List.set_cons_succ, List.set_cons_zero]
  refine load39 (cs := (u8s x.now).toArray) (encH_now HX.out HG.out) (by rw [u8s_size, HX.out.now.length]) rfl rfl ?_
  try simp only [Act.put, List.setIfInBounds_toArray, List.set_cons_succ, List.set_cons_zero]
  refine takeL (.int .i64 o) rfl (by go_simp) ?_
  try simp only [Act.put, List.setIfInBounds_toArray, List.set_cons_succ, List.set_cons_zero]
  refine takeL (sv) rfl (by go_simp) ?_
  try simp only [Act.put, List.setIfInBounds_toArray, List.set_cons_succ, List.set_cons_zero]
  refine wpList_op rfl fun K hK => ?_
  go_simp
  refine (HAP.out _ HB1.out).mono ?_
  rintro e w2 ⟨rfl, hb⟩
  have HB2 := Lib.hid (stay HB1.out hb)
  have HG2 := Lib.hid (HG.out.below hb HG.out.lt)
  clear hb HG
  refine hK _ _ ?_
  clear hK K
  try simp only [Act.put, List.setIfInBounds_toArray, List.set_cons_succ, List.set_cons_zero]
  refine takeL (.tuple #[.agg (u8s (layI x.now o l)).toArray, .int .i64 0]) rfl (by go_simp) ?_
  try simp only [Act.put, List.setIfInBounds_toArray, List.set_cons_succ, List.set_cons_zero]
  refine takeL (.agg (u8s (layI x.now o l)).toArray) rfl (by go_simp) ?_
  try simp only [Act.put, List.setIfInBounds_toArray, List.set_cons_succ, List.set_cons_zero]
  refine takeL (.int .i64 0) rfl (by go_simp) ?_
  try simp only [Act.put, List.setIfInBounds_toArray, List.set_cons_succ, List.set_cons_zero]
  refine alloc_g zero39 rfl ?_
  intro w3 hA hb hl
  try simp only [Act.put, List.setIfInBounds_toArray, List.set_cons_succ, List.set_cons_zero]
  refine store_all (cs := (u8s (layI x.now o l)).toArray) hA (by simp only [u8s_size, List.size_toArray, List.length_map, HLY.out, HZ32.out]) (by rw [u8s_size, HLY.out]; exact info39) (u8s_one _) rfl rfl rfl ?_
  intro w4 hD hO hlD
  try simp only [Act.put, List.setIfInBounds_toArray, List.set_cons_succ, List.set_cons_zero]
  have hbb : Below w2.heap.size w2 w4 := hb.trans (hO.below hb.size fun k hk => Nat.le_of_eq hk.symm)
  have HB4 := Lib.hid (stay HB2.out hbb)
  have HG4 := Lib.hid (HG2.out.below hbb HG2.out.lt)
  have HD4 : Hid (Blk w4 w2.heap.size (u8s (layI x.now o l))) := Lib.hid (by simpa using hD)
  have HN4 : Hid (g ≠ w2.heap.size) := Lib.hid (Nat.ne_of_lt HG2.out.lt)
  clear hA hb hl hD hO hlD hbb
  refine takeL (.int .i64 0) rfl (by go_simp) ?_
  try simp only [Act.put, List.setIfInBounds_toArray, List.set_cons_succ, List.set_cons_zero]
  refine wpList_nil ?_
  go_upto_region 9 with fail
  refine wp_region_lit ?_
  refine takeL (.pointer (some ⟨g, 0, none⟩)) rfl (by go_simp) ?_
  try simp only [Act.put, List.setIfInBounds_toArray, List.set_cons_succ, List.set_cons_zero]
  refine load39 (cs := (u8s (layI x.now o l)).toArray) (Blk.all HD4.out rfl) (by rw [u8s_size, HLY.out]) rfl rfl ?_
  try simp only [Act.put, List.setIfInBounds_toArray, List.set_cons_succ, List.set_cons_zero]
  refine takeL (.pointer (some ⟨g, 0, none⟩)) rfl (by go_simp) ?_
  try simp only [Act.put, List.setIfInBounds_toArray, List.set_cons_succ, List.set_cons_zero]
  refine takeL (.pointer (some ⟨g, 33, none⟩)) rfl (by go_simp) ?_
  try simp only [Act.put, List.setIfInBounds_toArray, List.set_cons_succ, List.set_cons_zero]
  refine store_g (off := 33) (cs := (u8s (layI x.now o l)).toArray) HG4.out (by rw [u8s_size, HLY.out]; exact info39) (by rw [u8s_size, HLY.out, encH_len HX.out]; omega) (u8s_one _) rfl rfl rfl ?_
  intro w5 hD hO hlD
  try simp only [Act.put, List.setIfInBounds_toArray, List.set_cons_succ, List.set_cons_zero]
  rw [splice_now HX.out HLY.out] at hD
  refine wpList_nil ?_
  have HA5 := Lib.hid ((HA.out.below HB4.out).turn HO.out HFK.out HXK.out HGK.out hO (y := { x with now := layI x.now o l }) (by simpa using hD))
  have HO5 := Lib.hid hO
  have c0 := HA5.out.blk.cell (i := 0) rfl
  have HT := Lib.hid (touch_any w5 L.cb L.cr L.cap [] s.c HA5.out.clk HO.out.ck k)
  clear hD hO hlD
  go_wp2_with fail
  refine HT.out.mono ?_
  rintro e w6 ⟨rfl, hc, ho⟩
  have HC6 := Lib.hid hc
  have HO6 := Lib.hid ho
  clear hc ho
  go_wp2_with fail
  go_ret
  refine ⟨rfl, ps, ?_, ((Only.of_below HB4.out).trans (HO5.out.more fun j _ hj => .inr (.inr (.inr (.inr (by rw [hj]; exact List.mem_of_getElem? HGK.out)))))).trans (Only.foot HO6.out), fun g hg => .inl hg⟩
  unfold Fs.turn
  rw [HXK.out]
  exact HA5.out.clock HC6.out HO6.out (Ck.touch_len _ _) (touch_keys _ _)
theorem Write_any {B : Nat} {w : World} {L : Lay} {ps : List (Option Nat)} {s : Fs} (h : FAt w L ps s) (ho : s.Ok B) (p off : Int) (sv : Value) (l : List Int) (hl : l.length ≤ 1000) (hbs : BytesAt w sv l) (hev : ErrVar w) : Calls Tryz.prog 14 #[.pointer (some ⟨L.b, 0, none⟩), .int .i64 p, .int .i64 off, sv] w fun e w' => e = .returned (.int .i64 (s.write p off l).1) ∧ Held w w' L ps (s.write p off l).2 := by
  have hc := fun (w' : World) (hb : Below w.heap.size w w') => pageF_any (h.below hb) ho p
  unfold Fs.write
  cases e : s.page p with
  | none =>
    rw [e] at hc
    refine (Write_none p off sv w hc).mono ?_
    rintro e w' ⟨rfl, hb⟩
    exact ⟨rfl, Held.below h hb⟩
  | some k =>
    rw [e] at hc
    obtain ⟨h0, h1, h2, f, x, hf, hx, ef, hxo⟩ := Fs.page_at ho e
    obtain ⟨g, hg, hb⟩ := h.yes k f x hf hx (by omega)
    simp only [findP, inn_nat hg, pv] at hc
    by_cases hfit : Fits off l
    · simp only [if_pos hfit]
      have hoff : (off.toNat : Int) = off := by have := hfit.1; omega
      have := Write_yes h ho p off.toNat sv l hl (by rw [hoff]; exact hfit) hxo hf hx hg hb hbs hev hc
      rwa [hoff] at this
    · simp only [if_neg hfit]
      refine (Write_no p off sv l hl hfit hxo w hb hbs hev hc).mono ?_
      rintro e w' ⟨rfl, hb⟩
      exact ⟨rfl, Held.below h hb⟩
set_option maxRecDepth 100000 in
theorem Clean_none (v : Value) (p : Int) (w : World) (hc : Calls Tryz.prog 37 #[v, .int .i64 p] w fun e w'' => e = .returned (.tuple #[.int .i64 0, .pointer none]) ∧ Below w.heap.size w w'') : Calls Tryz.prog 16 #[v, .int .i64 p] w fun e w' => e = .returned (.tuple #[]) ∧ Below w.heap.size w w' := by
  have HC := Lib.hid hc
  clear hc
  go_enter Tryz.func16, Tryz.ntmps16
  go_wp2_with fail
  refine HC.out.mono ?_
  rintro e w1 ⟨rfl, hb⟩
  have HB1 := Lib.hid hb
  clear hb
  go_wp2_with fail
  first | refine bodyPost_end (results_none rfl _ _ _) rfl ?_ | refine bodyPost_ret (results_none rfl _ _ _) rfl ?_
  exact ⟨rfl, HB1.out⟩
set_option maxRecDepth 100000 in
theorem Clean_yes {B : Nat} {w : World} {L : Lay} {ps : List (Option Nat)} {s : Fs} (h : FAt w L ps s) (ho : s.Ok B) {g k : Nat} {f : Fm} {x : Hd} (p : Int) (hx : x.Ok) (hfk : s.c.l[k]? = some f) (hxk : s.h[k]? = some x) (hgk : ps[k]? = some (some g)) (hg : Blk w g (encH f.key x)) (hc : Calls Tryz.prog 37 #[.pointer (some ⟨L.b, 0, none⟩), .int .i64 p] w fun e w'' => e = .returned (.tuple #[.int .i64 k, .pointer (some ⟨g, 0, none⟩)]) ∧ Below w.heap.size w w'') : Calls Tryz.prog 16 #[.pointer (some ⟨L.b, 0, none⟩), .int .i64 p] w fun e w' => e = .returned (.tuple #[]) ∧ Held w w' L ps (s.turn k fun x => { x with base := x.now }) := by
  have HC := Lib.hid hc
  have HX := Lib.hid hx
  have HG0 := Lib.hid hg
  have HA := Lib.hid h
  have HO := Lib.hid ho
  have HFK := Lib.hid hfk
  have HXK := Lib.hid hxk
  have HGK := Lib.hid hgk
  clear hc hx hg h ho hfk hxk hgk
  go_enter Tryz.func16, Tryz.ntmps16
  go_wp2_with fail
  refine HC.out.mono ?_
  rintro e w1 ⟨rfl, hb⟩
  have HB1 := Lib.hid hb
  have HG := Lib.hid (HG0.out.below hb HG0.out.lt)
  clear hb
  go_upto_region 2 with fail
  refine wp_region_lit ?_
  refine takeL (.pointer (some ⟨g, 0, none⟩)) rfl (by go_simp) ?_
  try simp only [Act.put, List.setIfInBounds_toArray, List.set_cons_succ, List.set_cons_zero]
  refine takeL (.pointer (some ⟨g, 0, none⟩)) rfl (by go_simp) ?_
  try simp only [Act.put, List.setIfInBounds_toArray, List.set_cons_succ, List.set_cons_zero]
  refine takeL (.pointer (some ⟨g, 0, none⟩)) rfl (by go_simp) ?_
  try simp only [Act.put, List.setIfInBounds_toArray, List.set_cons_succ, List.set_cons_zero]
  refine takeL (.pointer (some ⟨g, 33, none⟩)) rfl (by go_simp) ?_
  try simp only [Act.put, List.setIfInBounds_toArray, List.set_cons_succ, List.set_cons_zero]
  refine load39 (cs := (u8s x.now).toArray) (encH_now HX.out HG.out) (by rw [u8s_size, HX.out.now.length]) rfl rfl ?_
  try simp only [Act.put, List.setIfInBounds_toArray, List.set_cons_succ, List.set_cons_zero]
  refine takeL (.pointer (some ⟨g, 0, none⟩)) rfl (by go_simp) ?_
  try simp only [Act.put, List.setIfInBounds_toArray, List.set_cons_succ, List.set_cons_zero]
  refine takeL (.pointer (some ⟨g, 1, none⟩)) rfl (by go_simp) ?_
  try simp only [Act.put, List.setIfInBounds_toArray, List.set_cons_succ, List.set_cons_zero]
  refine store_g (off := 1) (cs := (u8s x.now).toArray) HG.out (by rw [u8s_size, HX.out.now.length]; exact info39) (by rw [u8s_size, HX.out.now.length, encH_len HX.out]; omega) (u8s_one _) rfl rfl rfl ?_
  intro w5 hD hO hlD
  try simp only [Act.put, List.setIfInBounds_toArray, List.set_cons_succ, List.set_cons_zero]
  rw [splice_base HX.out HX.out.now.length] at hD
  refine wpList_nil ?_
  have HA5 := Lib.hid ((HA.out.below HB1.out).turn HO.out HFK.out HXK.out HGK.out hO (y := { x with base := x.now }) (by simpa using hD))
  have HO5 := Lib.hid hO
  clear hD hO hlD
  go_wp2_with fail
  first | refine bodyPost_end (results_none rfl _ _ _) rfl ?_ | refine bodyPost_ret (results_none rfl _ _ _) rfl ?_
  refine ⟨rfl, ps, ?_, (Only.of_below HB1.out).trans (HO5.out.more fun j _ hj => .inr (.inr (.inr (.inr (by rw [hj]; exact List.mem_of_getElem? HGK.out))))), fun g hg => .inl hg⟩
  unfold Fs.turn
  rw [HXK.out]
  exact HA5.out
theorem Clean_any {B : Nat} {w : World} {L : Lay} {ps : List (Option Nat)} {s : Fs} (h : FAt w L ps s) (ho : s.Ok B) (p : Int) : Calls Tryz.prog 16 #[.pointer (some ⟨L.b, 0, none⟩), .int .i64 p] w fun e w' => e = .returned (.tuple #[]) ∧ Held w w' L ps (s.clean p) := by
  have hc := pageF_any h ho p
  unfold Fs.clean
  cases e : s.page p with
  | none =>
    rw [e] at hc
    refine (Clean_none _ p w hc).mono ?_
    rintro e w' ⟨rfl, hb⟩
    exact ⟨rfl, Held.below h hb⟩
  | some k =>
    rw [e] at hc
    obtain ⟨h0, h1, h2, f, x, hf, hx, ef, hxo⟩ := Fs.page_at ho e
    obtain ⟨g, hg, hb⟩ := h.yes k f x hf hx (by omega)
    simp only [findP, inn_nat hg, pv] at hc
    exact Clean_yes h ho p hxo hf hx hg hb hc
theorem Clean_nil (p : Int) (w : World) : Calls Tryz.prog 16 #[.pointer none, .int .i64 p] w fun e w' => e = .returned (.tuple #[]) ∧ Below w.heap.size w w' := Clean_none _ p w (pageF_nil w p)

end Go.Proofs.YtaemjglblfencaaGreatDoor
