/- The other calls of the statements' own frames. -/
import Derived.Test.YtaemjglblfencaaGreatDoorQb
import Derived.BigQuiet
import Derived.Deep.QuietTactic
namespace Go.Proofs.YtaemjglblfencaaGreatDoor
set_option linter.unusedSimpArgs false
set_option linter.unusedVariables false
open Go.RowKit Kl

theorem set_of_get {α : Type} {l : List α} {k : Nat} {x : α} (h : l[k]? = some x) : l.set k x = l := by
  apply List.ext_getElem?
  intro i
  rw [List.getElem?_set]
  split
  · rename_i e
    subst e
    rw [if_pos (List.getElem?_eq_some_iff.1 h).1, h]
  · rfl
theorem hd_nowS {w : World} {g k : Nat} {l : List Hd} {x : Hd} (hk : k < l.length) (h : ∃ y : Hd, y.Ok ∧ y.now = x.now ∧ Blk w g ((l.set k y).flatMap hdE)) : At w g (k * 72 + 32) (u8s x.now).toArray := by
  obtain ⟨y, h1, h2, h3⟩ := h
  rw [← h2]
  exact hd_now h3 (by rw [List.getElem?_set, if_pos rfl, if_pos hk]) h1
theorem Only.rhr {w w' : World} {R : Rl} (h : Only (fun q => q = R.hr) w w') : Only (RFoot R) w w' := h.more fun q _ hq => .inr (.inr (.inr hq))
set_option maxRecDepth 100000 in
theorem rWrite_none {B : Nat} {w : World} {R : Rl} {s : Fs} (h : RAt w R s) (ho : s.Ok B) (p off : Int) (sv : Value) (hp : s.page p = none) : Calls Tryz.prog 15 #[.pointer (some ⟨R.b, 0, none⟩), .int .i64 p, .int .i64 off, sv] w fun e w' => e = .returned (.int .i64 17) ∧ w = w' := by
  have HO := Lib.hid (rOf_any h ho p)
  rw [hp] at HO
  simp only [findI] at HO
  clear h ho hp
  go_enter Tryz.func15, Tryz.ntmps15
  go_wp2_with fail
  refine HO.out.mono ?_
  rintro e w' ⟨rfl, rfl⟩
  go_wp2_with fail
  go_ret
  exact ⟨rfl, rfl⟩
set_option maxRecDepth 100000 in
theorem rWrite_no {B : Nat} {w : World} {R : Rl} {s : Fs} (h : RAt w R s) (ho : s.Ok B) (p off : Int) (sv : Value) (l : List Int) {k : Nat} {x : Hd} (hp : s.page p = some k) (hk : k < s.c.l.length) (hx : s.h[k]? = some x) (hl : l.length ≤ 1000) (hf : ¬ Fits off l) (hbs : BytesAt w sv l) : Calls Tryz.prog 15 #[.pointer (some ⟨R.b, 0, none⟩), .int .i64 p, .int .i64 off, sv] w fun e w' => e = .returned (.int .i64 18) ∧ Below w.heap.size w w' := by
  have HOF := Lib.hid (rOf_any h ho p)
  rw [hp] at HOF
  simp only [findI] at HOF
  have HXO := Lib.hid (ho.hd k x hx)
  have HAP := Lib.hid (rapply_no x.now l HXO.out.now.length off sv hl hf w hbs)
  obtain ⟨n, hn⟩ : ∃ n, s.c.l.length = n := ⟨_, rfl⟩
  have HNN := Lib.hid hn
  have hk1 : (k : Int) < (n : Int) := by omega
  have hkn : k < n := by omega
  have e0 : decide ((k : Int) < 0) = false := decide_eq_false (by omega)
  have HR := Lib.hid h
  have HX := Lib.hid hx
  clear h ho hp hx hl hf hbs hn hk
  go_enter Tryz.func15, Tryz.ntmps15
  go_wp2_with fail
  refine HOF.out.mono ?_
  rintro e w' ⟨rfl, rfl⟩
  go_upto_region 4 with fail
  refine wp_region_lit ?_
  refine takeL (.pointer (some ⟨R.b, 0, none⟩)) rfl (by go_simp) ?_
  try simp only [Act.put, List.setIfInBounds_toArray, List.set_cons_succ, List.set_cons_zero]
  refine takeL (.pointer (some ⟨R.b, 0, none⟩)) rfl (by go_simp) ?_
  try simp only [Act.put, List.setIfInBounds_toArray, List.set_cons_succ, List.set_cons_zero]
  refine takeL (.pointer (some ⟨R.b, 1, none⟩)) rfl (by go_simp) ?_
  try simp only [Act.put, List.setIfInBounds_toArray, List.set_cons_succ, List.set_cons_zero]
  refine takeL (.slice (some ⟨R.hr, 0, none⟩) n R.hcap) rfl (by have hq := HR.out.blk.cell (i := 1) rfl; rw [HNN.out] at hq; go_simp) ?_
  try simp only [Act.put, List.setIfInBounds_toArray, List.set_cons_succ, List.set_cons_zero]
  refine takeL (.int .i64 k) rfl (by go_simp) ?_
  try simp only [Act.put, List.setIfInBounds_toArray, List.set_cons_succ, List.set_cons_zero]
  refine takeL (.pointer (some ⟨R.hr, k * 72, none⟩)) rfl (by go_simp) ?_
  try simp only [Act.put, List.setIfInBounds_toArray, List.set_cons_succ, List.set_cons_zero]
  refine takeL (.pointer (some ⟨R.hr, k * 72 + 32, none⟩)) rfl (by go_simp) ?_
  try simp only [Act.put, List.setIfInBounds_toArray, List.set_cons_succ, List.set_cons_zero]
  refine load39 (cs := (u8s x.now).toArray) (hd_now HR.out.row HX.out HXO.out) (by rw [u8s_size, HXO.out.now.length]) rfl rfl ?_
  try simp only [Act.put, List.setIfInBounds_toArray, List.set_cons_succ, List.set_cons_zero]
  refine takeL (.int .i64 off) rfl (by go_simp) ?_
  try simp only [Act.put, List.setIfInBounds_toArray, List.set_cons_succ, List.set_cons_zero]
  refine takeL (sv) rfl (by go_simp) ?_
  try simp only [Act.put, List.setIfInBounds_toArray, List.set_cons_succ, List.set_cons_zero]
  refine wpList_op rfl fun K hK => ?_
  go_simp
  refine (HAP.out).mono ?_
  rintro e w2 ⟨rfl, hb⟩
  have HB2 := Lib.hid hb
  clear hb
  refine hK _ _ ?_
  clear hK K
  try simp only [Act.put, List.setIfInBounds_toArray, List.set_cons_succ, List.set_cons_zero]
  refine alloc_g zero82 rfl ?_
  intro w3 hA hb hl
  try simp only [Act.put, List.setIfInBounds_toArray, List.set_cons_succ, List.set_cons_zero]
  refine store_all (cs := (u8s (zeros 32) ++ [Value.bool false]).toArray) hA (by rw [got_size (zeros_length 32)]; simp [zeros]) (by rw [got_size (zeros_length 32)]; exact info82) (got_one _ _) rfl rfl rfl ?_
  intro w4 hD hO hlD
  try simp only [Act.put, List.setIfInBounds_toArray, List.set_cons_succ, List.set_cons_zero]
  have HB4 : Hid (Below w.heap.size w w4) := Lib.hid (stay HB2.out (hb.trans (hO.below hb.size fun k hk => Nat.le_of_eq hk.symm)))
  have HG4 : Hid (Blk w4 w2.heap.size (u8s (zeros 32) ++ [Value.bool false])) := Lib.hid (by simpa using hD)
  have HLT2 : Hid (w.heap.size ≤ w2.heap.size) := Lib.hid HB2.out.size
  clear hA hb hl hD hO hlD
  refine wpList_nil ?_
  have g32 := HG4.out.cell (i := 32) (v := .bool false) (got_ok (zeros_length 32))
  go_wp2_with fail
  go_ret
  exact ⟨rfl, HB4.out⟩
set_option maxRecDepth 100000 in
theorem rWrite_yes {B : Nat} {w : World} {R : Rl} {s : Fs} (h : RAt w R s) (ho : s.Ok B) (p : Int) (o : Nat) (sv : Value) (l : List Int) {k : Nat} {x : Hd} (hp : s.page p = some k) (hk : k < s.c.l.length) (hx : s.h[k]? = some x) (hl : l.length ≤ 1000) (hf : Fits o l) (hbs : BytesAt w sv l) : Calls Tryz.prog 15 #[.pointer (some ⟨R.b, 0, none⟩), .int .i64 p, .int .i64 o, sv] w fun e w' => e = .returned (.int .i64 0) ∧ RAt w' R { (s.turn k fun x => { x with now := layI x.now o l }) with c := s.c.touch k } ∧ Only (RFoot R) w w' := by
  have HOF := Lib.hid (rOf_any h ho p)
  rw [hp] at HOF
  simp only [findI] at HOF
  have HXO := Lib.hid (ho.hd k x hx)
  have HAP := Lib.hid (rapply_yes x.now l HXO.out.now.length o sv l.length rfl hl hf w hbs)
  have HLY := Lib.hid (lay_size HXO.out.now.length o hf)
  obtain ⟨n, hn⟩ : ∃ n, s.c.l.length = n := ⟨_, rfl⟩
  have HNN := Lib.hid hn
  have hk1 : (k : Int) < (n : Int) := by omega
  have hkn : k < n := by omega
  have HHL : Hid (s.h.length = n ∧ k < n) := Lib.hid ⟨by rw [ho.len, hn], hkn⟩
  have e0 : decide ((k : Int) < 0) = false := decide_eq_false (by omega)
  have HR := Lib.hid h
  have HX := Lib.hid hx
  have HCK := Lib.hid ho.ck
  clear h ho hp hx hl hf hbs hn hk
  go_enter Tryz.func15, Tryz.ntmps15
  go_wp2_with fail
  refine HOF.out.mono ?_
  rintro e w' ⟨rfl, rfl⟩
  go_upto_region 4 with fail
  refine wp_region_lit ?_
  refine takeL (.pointer (some ⟨R.b, 0, none⟩)) rfl (by go_simp) ?_
  try simp only [Act.put, List.setIfInBounds_toArray, List.set_cons_succ, List.set_cons_zero]
  refine takeL (.pointer (some ⟨R.b, 0, none⟩)) rfl (by go_simp) ?_
  try simp only [Act.put, List.setIfInBounds_toArray, List.set_cons_succ, List.set_cons_zero]
  refine takeL (.pointer (some ⟨R.b, 1, none⟩)) rfl (by go_simp) ?_
  try simp only [Act.put, List.setIfInBounds_toArray, List.set_cons_succ, List.set_cons_zero]
  refine takeL (.slice (some ⟨R.hr, 0, none⟩) n R.hcap) rfl (by have hq := HR.out.blk.cell (i := 1) rfl; rw [HNN.out] at hq; go_simp) ?_
  try simp only [Act.put, List.setIfInBounds_toArray, List.set_cons_succ, List.set_cons_zero]
  refine takeL (.int .i64 k) rfl (by go_simp) ?_
  try simp only [Act.put, List.setIfInBounds_toArray, List.set_cons_succ, List.set_cons_zero]
  refine takeL (.pointer (some ⟨R.hr, k * 72, none⟩)) rfl (by go_simp) ?_
  try simp only [Act.put, List.setIfInBounds_toArray, List.set_cons_succ, List.set_cons_zero]
  refine takeL (.pointer (some ⟨R.hr, k * 72 + 32, none⟩)) rfl (by go_simp) ?_
  try simp only [Act.put, List.setIfInBounds_toArray, List.set_cons_succ, List.set_cons_zero]
  refine load39 (cs := (u8s x.now).toArray) (hd_now HR.out.row HX.out HXO.out) (by rw [u8s_size, HXO.out.now.length]) rfl rfl ?_
  try simp only [Act.put, List.setIfInBounds_toArray, List.set_cons_succ, List.set_cons_zero]
  refine takeL (.int .i64 o) rfl (by go_simp) ?_
  try simp only [Act.put, List.setIfInBounds_toArray, List.set_cons_succ, List.set_cons_zero]
  refine takeL (sv) rfl (by go_simp) ?_
  try simp only [Act.put, List.setIfInBounds_toArray, List.set_cons_succ, List.set_cons_zero]
  refine wpList_op rfl fun K hK => ?_
  go_simp
  refine (HAP.out).mono ?_
  rintro e w2 ⟨rfl, hb⟩
  have HB2 := Lib.hid hb
  clear hb
  refine hK _ _ ?_
  clear hK K
  try simp only [Act.put, List.setIfInBounds_toArray, List.set_cons_succ, List.set_cons_zero]
  refine alloc_g zero82 rfl ?_
  intro w3 hA hb hl
  try simp only [Act.put, List.setIfInBounds_toArray, List.set_cons_succ, List.set_cons_zero]
  refine store_all (cs := (u8s (layI x.now o l) ++ [Value.bool true]).toArray) hA (by rw [got_size HLY.out]; simp [zeros]) (by rw [got_size HLY.out]; exact info82) (got_one _ _) rfl rfl rfl ?_
  intro w4 hD hO hlD
  try simp only [Act.put, List.setIfInBounds_toArray, List.set_cons_succ, List.set_cons_zero]
  have HB4 : Hid (Below w.heap.size w w4) := Lib.hid (stay HB2.out (hb.trans (hO.below hb.size fun k hk => Nat.le_of_eq hk.symm)))
  have HG4 : Hid (Blk w4 w2.heap.size (u8s (layI x.now o l) ++ [Value.bool true])) := Lib.hid (by simpa using hD)
  have HLT2 : Hid (w.heap.size ≤ w2.heap.size) := Lib.hid HB2.out.size
  clear hA hb hl hD hO hlD
  refine wpList_nil ?_
  have HR4 := Lib.hid (HR.out.below HB4.out)
  have HNB : Hid (¬ R.b = R.hr) := Lib.hid HR.out.n1.2.2.1
  have HN7 : Hid (¬ w2.heap.size = R.hr) := Lib.hid (by have := HR.out.row.lt; have := HLT2.out; omega)
  have g32 := HG4.out.cell (i := 32) (v := .bool true) (got_ok HLY.out)
  go_upto_region 7 with fail
  clear g32
  go_upto_region 7 with fail
  refine startH (fun wq => Only (fun q => q = R.hr) w4 wq) (by kernel_rfl) ?_
  refine takeH 0 (some 30) (.pointer (some ⟨R.b, 0, none⟩)) rfl rfl (by kernel_rfl) (by kernel_rfl) (by kernel_rfl) (fun _ _ _ h => h) rfl (fun wq hS => by go_simp) (Only.refl _ _).drew ?_
  try simp only [Act.put, List.setIfInBounds_toArray, List.set_cons_succ, List.set_cons_zero]
  refine takeH 1 (some 31) (.pointer (some ⟨R.b, 0, none⟩)) rfl rfl (by kernel_rfl) (by kernel_rfl) (by kernel_rfl) (fun _ _ _ h => h) rfl (fun wq hS => by go_simp) (Only.refl _ _).drew ?_
  try simp only [Act.put, List.setIfInBounds_toArray, List.set_cons_succ, List.set_cons_zero]
  refine takeH 2 (some 32) (.pointer (some ⟨R.b, 1, none⟩)) rfl rfl (by kernel_rfl) (by kernel_rfl) (by kernel_rfl) (fun _ _ _ h => h) rfl (fun wq hS => by go_simp) (Only.refl _ _).drew ?_
  try simp only [Act.put, List.setIfInBounds_toArray, List.set_cons_succ, List.set_cons_zero]
  refine takeH 3 (some 33) (.slice (some ⟨R.hr, 0, none⟩) n R.hcap) rfl rfl (by kernel_rfl) (by kernel_rfl) (by kernel_rfl) (fun _ _ _ h => h) rfl (fun wq hS => by have hq := (HR4.out.blk.only hS HNB.out).cell (i := 1) rfl; rw [HNN.out] at hq; go_simp) (Only.refl _ _).drew ?_
  try simp only [Act.put, List.setIfInBounds_toArray, List.set_cons_succ, List.set_cons_zero]
  refine takeH 4 (some 34) (.int .i64 k) rfl rfl (by kernel_rfl) (by kernel_rfl) (by kernel_rfl) (fun _ _ _ h => h) rfl (fun wq hS => by go_simp) (Only.refl _ _).drew ?_
  try simp only [Act.put, List.setIfInBounds_toArray, List.set_cons_succ, List.set_cons_zero]
  refine takeH 5 (some 35) (.pointer (some ⟨w2.heap.size, 0, none⟩)) rfl rfl (by kernel_rfl) (by kernel_rfl) (by kernel_rfl) (fun _ _ _ h => h) rfl (fun wq hS => by go_simp) (Only.refl _ _).drew ?_
  try simp only [Act.put, List.setIfInBounds_toArray, List.set_cons_succ, List.set_cons_zero]
  refine takeH 6 (some 36) (.agg (u8s (layI x.now o l)).toArray) rfl rfl (by kernel_rfl) (by kernel_rfl) (by kernel_rfl) (fun _ _ _ h => h) rfl (fun wq hS => by exact exec_load_at wq _ _ 39 _ rfl (w2.heap.size) (0) rfl ((u8s (layI x.now o l)).toArray) _ Tryz.underlying39 rfl (by rw [u8s_size, HLY.out]; exact info39) (got_at (HG4.out.only hS HN7.out))) (Only.refl _ _).drew ?_
  try simp only [Act.put, List.setIfInBounds_toArray, List.set_cons_succ, List.set_cons_zero]
  refine takeH 7 (some 37) (.pointer (some ⟨R.hr, k * 72, none⟩)) rfl rfl (by kernel_rfl) (by kernel_rfl) (by kernel_rfl) (fun _ _ _ h => h) rfl (fun wq hS => by go_simp) (Only.refl _ _).drew ?_
  try simp only [Act.put, List.setIfInBounds_toArray, List.set_cons_succ, List.set_cons_zero]
  refine takeH 8 (some 38) (.pointer (some ⟨R.hr, k * 72 + 32, none⟩)) rfl rfl (by kernel_rfl) (by kernel_rfl) (by kernel_rfl) (fun _ _ _ h => h) rfl (fun wq hS => by go_simp) (Only.refl _ _).drew ?_
  try simp only [Act.put, List.setIfInBounds_toArray, List.set_cons_succ, List.set_cons_zero]
  refine oneH 9 (by kernel_rfl) rfl rfl fun K hK => ?_
  refine store_O (off := k * 72 + 32) (cs := (u8s (layI x.now o l)).toArray) none rfl rfl HR4.out.row.drew (by rw [u8s_size, HLY.out, fm_len hdE_len]; have := HHL.out; omega) (by rw [u8s_size, HLY.out]; exact info39) (u8s_one _) rfl rfl fun w5 hD hO hlD => ?_
  rw [splice_nowR HX.out HXO.out HLY.out] at hD
  have HD5 : Hid (Blk w5 R.hr ((s.h.set k { x with now := layI x.now o l }).flatMap hdE)) := Lib.hid (by simpa using hD)
  have HO5 := Lib.hid ((((Only.refl _ _).drew : Only (fun q => q = R.hr) w4 w4.drew)).trans hO)
  clear hD hO hlD
  refine hK _ _ HO5.out ?_
  clear hK K
  try simp only [Act.put, List.setIfInBounds_toArray, List.set_cons_succ, List.set_cons_zero]
  refine wpAnyH_done (by kernel_rfl) ?_ _
  have HR5 := Lib.hid (HR4.out.turn HO5.out HD5.out)
  have c5 := HR5.out.blk.cell (i := 0) rfl
  have HT := Lib.hid (rtouch_any w5 R.cb R.cr R.cap R.tl s.c HR5.out.clk HCK.out k)
  go_wp2_with fail
  refine HT.out.mono ?_
  rintro e w6 ⟨rfl, hc, hon⟩
  have HC6 := Lib.hid hc
  have HO6 := Lib.hid hon
  clear hc hon
  go_wp2_with fail
  go_ret
  refine ⟨rfl, ?_, ((Only.of_below HB4.out).trans (Only.rhr HO5.out)).trans (Only.rfoot HO6.out)⟩
  unfold Fs.turn
  rw [HX.out]
  exact HR5.out.clock HC6.out HO6.out (Ck.touch_len _ _)
theorem rWrite_any {B : Nat} {w : World} {R : Rl} {s : Fs} (h : RAt w R s) (ho : s.Ok B) (p off : Int) (sv : Value) (l : List Int) (hl : l.length ≤ 1000) (hbs : BytesAt w sv l) : Calls Tryz.prog 15 #[.pointer (some ⟨R.b, 0, none⟩), .int .i64 p, .int .i64 off, sv] w fun e w' => e = .returned (.int .i64 (s.write p off l).1) ∧ RAt w' R (s.write p off l).2 ∧ Only (RFoot R) w w' := by
  unfold Fs.write
  cases e : s.page p with
  | none =>
    refine (rWrite_none h ho p off sv e).mono ?_
    rintro e w' ⟨rfl, rfl⟩
    exact ⟨rfl, h, Only.refl _ _⟩
  | some k =>
    obtain ⟨h0, h1, h2, f, x, hf, hx, ef, hxo⟩ := Fs.page_at ho e
    have hk := find_lt ho.ck h2
    by_cases hfit : Fits off l
    · simp only [if_pos hfit]
      have hoff : (off.toNat : Int) = off := by have := hfit.1; omega
      have := rWrite_yes h ho p off.toNat sv l e hk hx hl (by rw [hoff]; exact hfit) hbs
      rwa [hoff] at this
    · simp only [if_neg hfit]
      refine (rWrite_no h ho p off sv l e hk hx hl hfit hbs).mono ?_
      rintro e w' ⟨rfl, hb⟩
      exact ⟨rfl, h.below hb, Only.of_below hb⟩
set_option maxRecDepth 100000 in
theorem rClean_any {B : Nat} {w : World} {R : Rl} {s : Fs} (h : RAt w R s) (ho : s.Ok B) (p : Int) : Calls Tryz.prog 17 #[.pointer (some ⟨R.b, 0, none⟩), .int .i64 p] w fun e w' => e = .returned (.tuple #[]) ∧ RAt w' R (s.clean p) ∧ Only (RFoot R) w w' := by
  have HOF := Lib.hid (rOf_any h ho p)
  have HR := Lib.hid h
  unfold Fs.clean
  cases e : s.page p with
  | none =>
    rw [e] at HOF
    simp only [findI] at HOF
    clear h ho e
    go_enter Tryz.func17, Tryz.ntmps17
    go_wp2_with fail
    refine HOF.out.mono ?_
    rintro e w' ⟨rfl, rfl⟩
    go_wp2_with fail
    first | refine bodyPost_end (results_none rfl _ _ _) rfl ?_ | refine bodyPost_ret (results_none rfl _ _ _) rfl ?_
    exact ⟨rfl, HR.out, Only.refl _ _⟩
  | some k =>
    rw [e] at HOF
    simp only [findI] at HOF
    obtain ⟨h0, h1, h2, f, x, hf, hx, ef, hxo⟩ := Fs.page_at ho e
    have hk := find_lt ho.ck h2
    have HX := Lib.hid hx
    have HXO := Lib.hid hxo
    obtain ⟨n, hn⟩ : ∃ n, s.c.l.length = n := ⟨_, rfl⟩
    have HNN := Lib.hid hn
    have hk1 : (k : Int) < (n : Int) := by omega
    have hkn : k < n := by omega
    have HHL : Hid (s.h.length = n ∧ k < n) := Lib.hid ⟨by rw [ho.len, hn], hkn⟩
    have e0 : decide (0 ≤ (k : Int)) = true := decide_eq_true (by omega)
    have HNB : Hid (¬ R.b = R.hr) := Lib.hid h.n1.2.2.1
    clear h ho e h0 h1 h2 hf hx ef hxo hn hk
    go_enter Tryz.func17, Tryz.ntmps17
    go_wp2_with fail
    refine HOF.out.mono ?_
    rintro e w' ⟨rfl, rfl⟩
    go_upto_region 2 with fail
    refine startH (fun wq => Only (fun q => q = R.hr) w wq ∧ ∃ y : Hd, y.Ok ∧ y.now = x.now ∧ Blk wq R.hr ((s.h.set k y).flatMap hdE)) (by kernel_rfl) ?_
    refine takeH 0 (some 10) (.pointer (some ⟨R.b, 0, none⟩)) rfl rfl (by kernel_rfl) (by kernel_rfl) (by kernel_rfl) (fun _ _ _ h => h) rfl (fun wq hS => by go_simp) ⟨(Only.refl _ _).drew, x, HXO.out, rfl, by rw [set_of_get HX.out]; exact HR.out.row.drew⟩ ?_
    try simp only [Act.put, List.setIfInBounds_toArray, List.set_cons_succ, List.set_cons_zero]
    refine takeH 1 (some 11) (.pointer (some ⟨R.b, 0, none⟩)) rfl rfl (by kernel_rfl) (by kernel_rfl) (by kernel_rfl) (fun _ _ _ h => h) rfl (fun wq hS => by go_simp) ⟨(Only.refl _ _).drew, x, HXO.out, rfl, by rw [set_of_get HX.out]; exact HR.out.row.drew⟩ ?_
    try simp only [Act.put, List.setIfInBounds_toArray, List.set_cons_succ, List.set_cons_zero]
    refine takeH 2 (some 12) (.pointer (some ⟨R.b, 1, none⟩)) rfl rfl (by kernel_rfl) (by kernel_rfl) (by kernel_rfl) (fun _ _ _ h => h) rfl (fun wq hS => by go_simp) ⟨(Only.refl _ _).drew, x, HXO.out, rfl, by rw [set_of_get HX.out]; exact HR.out.row.drew⟩ ?_
    try simp only [Act.put, List.setIfInBounds_toArray, List.set_cons_succ, List.set_cons_zero]
    refine takeH 3 (some 13) (.slice (some ⟨R.hr, 0, none⟩) n R.hcap) rfl rfl (by kernel_rfl) (by kernel_rfl) (by kernel_rfl) (fun _ _ _ h => h) rfl (fun wq hS => by have hq := (HR.out.blk.only hS.1 HNB.out).cell (i := 1) rfl; rw [HNN.out] at hq; go_simp) ⟨(Only.refl _ _).drew, x, HXO.out, rfl, by rw [set_of_get HX.out]; exact HR.out.row.drew⟩ ?_
    try simp only [Act.put, List.setIfInBounds_toArray, List.set_cons_succ, List.set_cons_zero]
    refine takeH 4 (some 14) (.int .i64 k) rfl rfl (by kernel_rfl) (by kernel_rfl) (by kernel_rfl) (fun _ _ _ h => h) rfl (fun wq hS => by go_simp) ⟨(Only.refl _ _).drew, x, HXO.out, rfl, by rw [set_of_get HX.out]; exact HR.out.row.drew⟩ ?_
    try simp only [Act.put, List.setIfInBounds_toArray, List.set_cons_succ, List.set_cons_zero]
    refine takeH 5 (some 15) (.pointer (some ⟨R.b, 0, none⟩)) rfl rfl (by kernel_rfl) (by kernel_rfl) (by kernel_rfl) (fun _ _ _ h => h) rfl (fun wq hS => by go_simp) ⟨(Only.refl _ _).drew, x, HXO.out, rfl, by rw [set_of_get HX.out]; exact HR.out.row.drew⟩ ?_
    try simp only [Act.put, List.setIfInBounds_toArray, List.set_cons_succ, List.set_cons_zero]
    refine takeH 6 (some 16) (.pointer (some ⟨R.b, 0, none⟩)) rfl rfl (by kernel_rfl) (by kernel_rfl) (by kernel_rfl) (fun _ _ _ h => h) rfl (fun wq hS => by go_simp) ⟨(Only.refl _ _).drew, x, HXO.out, rfl, by rw [set_of_get HX.out]; exact HR.out.row.drew⟩ ?_
    try simp only [Act.put, List.setIfInBounds_toArray, List.set_cons_succ, List.set_cons_zero]
    refine takeH 7 (some 17) (.pointer (some ⟨R.b, 1, none⟩)) rfl rfl (by kernel_rfl) (by kernel_rfl) (by kernel_rfl) (fun _ _ _ h => h) rfl (fun wq hS => by go_simp) ⟨(Only.refl _ _).drew, x, HXO.out, rfl, by rw [set_of_get HX.out]; exact HR.out.row.drew⟩ ?_
    try simp only [Act.put, List.setIfInBounds_toArray, List.set_cons_succ, List.set_cons_zero]
    refine takeH 8 (some 18) (.slice (some ⟨R.hr, 0, none⟩) n R.hcap) rfl rfl (by kernel_rfl) (by kernel_rfl) (by kernel_rfl) (fun _ _ _ h => h) rfl (fun wq hS => by have hq := (HR.out.blk.only hS.1 HNB.out).cell (i := 1) rfl; rw [HNN.out] at hq; go_simp) ⟨(Only.refl _ _).drew, x, HXO.out, rfl, by rw [set_of_get HX.out]; exact HR.out.row.drew⟩ ?_
    try simp only [Act.put, List.setIfInBounds_toArray, List.set_cons_succ, List.set_cons_zero]
    refine takeH 9 (some 19) (.int .i64 k) rfl rfl (by kernel_rfl) (by kernel_rfl) (by kernel_rfl) (fun _ _ _ h => h) rfl (fun wq hS => by go_simp) ⟨(Only.refl _ _).drew, x, HXO.out, rfl, by rw [set_of_get HX.out]; exact HR.out.row.drew⟩ ?_
    try simp only [Act.put, List.setIfInBounds_toArray, List.set_cons_succ, List.set_cons_zero]
    refine takeH 10 (some 20) (.pointer (some ⟨R.hr, k * 72, none⟩)) rfl rfl (by kernel_rfl) (by kernel_rfl) (by kernel_rfl) (fun _ _ _ h => h) rfl (fun wq hS => by go_simp) ⟨(Only.refl _ _).drew, x, HXO.out, rfl, by rw [set_of_get HX.out]; exact HR.out.row.drew⟩ ?_
    try simp only [Act.put, List.setIfInBounds_toArray, List.set_cons_succ, List.set_cons_zero]
    refine takeH 11 (some 21) (.pointer (some ⟨R.hr, k * 72 + 32, none⟩)) rfl rfl (by kernel_rfl) (by kernel_rfl) (by kernel_rfl) (fun _ _ _ h => h) rfl (fun wq hS => by go_simp) ⟨(Only.refl _ _).drew, x, HXO.out, rfl, by rw [set_of_get HX.out]; exact HR.out.row.drew⟩ ?_
    try simp only [Act.put, List.setIfInBounds_toArray, List.set_cons_succ, List.set_cons_zero]
    refine takeH 12 (some 22) (.agg (u8s x.now).toArray) rfl rfl (by kernel_rfl) (by kernel_rfl) (by kernel_rfl) (fun _ _ _ h => h) rfl (fun wq hS => by exact exec_load_at wq _ _ 39 _ rfl (R.hr) (k * 72 + 32) rfl ((u8s x.now).toArray) _ Tryz.underlying39 rfl (by rw [u8s_size, HXO.out.now.length]; exact info39) (hd_nowS (List.getElem?_eq_some_iff.1 HX.out).1 hS.2)) ⟨(Only.refl _ _).drew, x, HXO.out, rfl, by rw [set_of_get HX.out]; exact HR.out.row.drew⟩ ?_
    try simp only [Act.put, List.setIfInBounds_toArray, List.set_cons_succ, List.set_cons_zero]
    refine takeH 13 (some 23) (.pointer (some ⟨R.hr, k * 72, none⟩)) rfl rfl (by kernel_rfl) (by kernel_rfl) (by kernel_rfl) (fun _ _ _ h => h) rfl (fun wq hS => by go_simp) ⟨(Only.refl _ _).drew, x, HXO.out, rfl, by rw [set_of_get HX.out]; exact HR.out.row.drew⟩ ?_
    try simp only [Act.put, List.setIfInBounds_toArray, List.set_cons_succ, List.set_cons_zero]
    refine takeH 14 (some 24) (.pointer (some ⟨R.hr, k * 72, none⟩)) rfl rfl (by kernel_rfl) (by kernel_rfl) (by kernel_rfl) (fun _ _ _ h => h) rfl (fun wq hS => by go_simp) ⟨(Only.refl _ _).drew, x, HXO.out, rfl, by rw [set_of_get HX.out]; exact HR.out.row.drew⟩ ?_
    try simp only [Act.put, List.setIfInBounds_toArray, List.set_cons_succ, List.set_cons_zero]
    refine oneH 15 (by kernel_rfl) rfl rfl fun K hK => ?_
    refine store_O (off := k * 72) (cs := (u8s x.now).toArray) none rfl rfl HR.out.row.drew (by rw [u8s_size, HXO.out.now.length, fm_len hdE_len]; have := HHL.out; omega) (by rw [u8s_size, HXO.out.now.length]; exact info39) (u8s_one _) rfl rfl fun w5 hD hO hlD => ?_
    rw [splice_baseR HX.out HXO.out HXO.out.now.length] at hD
    have HD5 : Hid (Blk w5 R.hr ((s.h.set k { x with base := x.now }).flatMap hdE)) := Lib.hid (by simpa using hD)
    have HO5 : Hid (Only (fun q => q = R.hr) w w5) := Lib.hid ((Only.refl _ _).drew.trans hO)
    clear hD hO hlD
    refine hK _ _ (⟨HO5.out, { x with base := x.now }, ⟨HXO.out.now, HXO.out.now, HXO.out.heads⟩, rfl, HD5.out⟩) ?_
    clear hK K
    try simp only [Act.put, List.setIfInBounds_toArray, List.set_cons_succ, List.set_cons_zero]
    refine wpAnyH_done (by kernel_rfl) ?_ _
    go_wp2_with fail
    first | refine bodyPost_end (results_none rfl _ _ _) rfl ?_ | refine bodyPost_ret (results_none rfl _ _ _) rfl ?_
    refine ⟨rfl, ?_, Only.rhr HO5.out⟩
    simp only [Fs.turn, HX.out]
    exact HR.out.turn HO5.out HD5.out
set_option maxRecDepth 100000 in
theorem rForget_any {B : Nat} {w : World} {R : Rl} {s : Fs} (h : RAt w R s) (ho : s.Ok B) (key : Int) : Calls Tryz.prog 19 #[.pointer (some ⟨R.b, 0, none⟩), .int .i64 key] w fun e w' => e = .returned (.bool (s.forgets key)) ∧ RAt w' R (s.forget key) ∧ Only (RFoot R) w w' := by
  have HF := Lib.hid (rfind_any w R.cb R.cr R.cap R.tl s.c h.clk ho.ck key)
  have HR := Lib.hid h
  have c0 := h.blk.cell (i := 0) rfl
  unfold Fs.forgets Fs.forget
  cases e : s.c.find key with
  | none =>
    rw [e] at HF
    simp only [findI] at HF
    clear h ho e
    go_enter Tryz.func19, Tryz.ntmps19
    go_wp2_with fail
    refine HF.out.mono ?_
    rintro e w' ⟨rfl, rfl⟩
    go_wp2_with fail
    go_ret
    exact ⟨rfl, HR.out, Only.refl _ _⟩
  | some k =>
    rw [e] at HF
    simp only [findI] at HF
    have HD := Lib.hid (rdrop_any w R.cb R.cr R.cap R.tl s.c h.clk ho.ck k)
    have e0 : decide (0 ≤ (k : Int)) = true := decide_eq_true (by omega)
    clear h ho e
    obtain ⟨m, hm⟩ : ∃ m, s.c.may (k : Int) = m := ⟨_, rfl⟩
    have HM := Lib.hid hm
    rw [hm] at HD
    clear hm
    go_enter Tryz.func19, Tryz.ntmps19
    go_wp2_with fail
    refine HF.out.mono ?_
    rintro e w' ⟨rfl, rfl⟩
    go_wp2_with fail
    refine HD.out.mono ?_
    rintro e w2 ⟨rfl, hc, hon⟩
    have HC2 := Lib.hid hc
    have HO2 := Lib.hid hon
    clear hc hon
    go_wp2_with fail
    go_ret
    exact ⟨by rw [HM.out]; rfl, HR.out.clock HC2.out HO2.out (Ck.drop_len _ _), Only.rfoot HO2.out⟩
/-- The dirty pages up to p. -/
def Fs.dup (s : Fs) (p : Nat) : List Int := ((List.range p).filter s.isDirty).map Int.ofNat
theorem dup_next (s : Fs) (p : Nat) : s.dup (p + 1) = s.dup p ++ (if s.isDirty p then [(p : Int)] else []) := by
  unfold Fs.dup
  rw [List.range_succ, List.filter_append, List.map_append]
  congr 1
  by_cases h : s.isDirty p = true
  · simp [h]
  · simp [h]
theorem dup_len (s : Fs) (p : Nat) : (s.dup p).length ≤ p := by
  unfold Fs.dup
  rw [List.length_map]
  exact Nat.le_trans (List.length_filter_le _ _) (by simp)
set_option maxRecDepth 100000 in
theorem rDirty_any {B : Nat} {w : World} {R : Rl} {s : Fs} (h : RAt w R s) (ho : s.Ok B) : Calls Tryz.prog 26 #[.pointer (some ⟨R.b, 0, none⟩)] w fun e w' => ∃ sv, e = .returned sv ∧ Kl.Own w' w.heap.size sv s.dirties ∧ Below w.heap.size w w' := by
  have HR := Lib.hid h
  have HO := Lib.hid ho
  clear h ho
  go_enter Tryz.func26, Tryz.ntmps26
  go_wp2_with fail
  go_loopg [4, 3] 64 (fun q i lv wr => ∃ k : Nat, 64 - k ≤ q ∧ k ≤ 64 ∧ i = .int .i64 k ∧ Kl.Own wr w.heap.size lv (s.dup k) ∧ Below w.heap.size w wr)
  case atStart => exact ⟨0, by omega, by omega, rfl, Kl.Own.nil w _, Below.refl _ _⟩
  case round =>
    obtain ⟨k, hq, hk, rfl, hown, hb⟩ := hrel
    have HW := Lib.hid hown
    have HB := Lib.hid hb
    clear hown
    by_cases hlt : k < 64
    · have hk1 : (k : Int) < 64 := by omega
      have HR1 := Lib.hid (HR.out.below hb)
      have HOF := Lib.hid (rOf_any HR1.out HO.out (k : Int))
      have hpk : s.page k = s.c.find k := by unfold Fs.page; rw [if_pos (by omega)]
      rw [hpk] at HOF
      have HN0 := Lib.hid (dup_next s k)
      have HKL := Lib.hid (dup_len s k)
      clear hb hpk
      cases hf : s.c.find (k : Int) with
      | none =>
        rw [hf] at HOF
        simp only [findI] at HOF
        have HS : Hid (s.dup (k + 1) = s.dup k) := Lib.hid (by rw [HN0.out]; simp [Fs.isDirty, hf])
        clear hf
        go_wp2_with fail
        refine HOF.out.mono ?_
        rintro e w' ⟨rfl, rfl⟩
        go_wp2_with fail
        go_roundg (64 - (k + 1))
        case measure => omega
        case rel => exact ⟨k + 1, by omega, by omega, by go_num, by rw [HS.out]; exact HW.out, HB.out⟩
      | some i =>
        rw [hf] at HOF
        simp only [findI] at HOF
        have e0 : decide (0 ≤ (i : Int)) = true := decide_eq_true (by omega)
        have HD := Lib.hid (rdirty_any HR1.out HO.out (find_lt HO.out.ck hf))
        have HI : Hid (s.isDirty k = s.dirtyN i) := Lib.hid (by simp [Fs.isDirty, hf])
        clear hf
        cases hd : s.dirtyN i with
        | false =>
          rw [hd] at HD
          have HS : Hid (s.dup (k + 1) = s.dup k) := Lib.hid (by rw [HN0.out, HI.out, hd]; simp)
          clear hd
          go_wp2_with fail
          refine HOF.out.mono ?_
          rintro e w' ⟨rfl, rfl⟩
          go_wp2_with fail
          refine HD.out.mono ?_
          rintro e w2 ⟨rfl, hb⟩
          have HB2 := Lib.hid hb
          clear hb
          go_wp2_with fail
          go_roundg (64 - (k + 1))
          case measure => omega
          case rel => exact ⟨k + 1, by omega, by omega, by go_num, by rw [HS.out]; exact HW.out.below HB2.out, stay HB.out HB2.out⟩
        | true =>
          rw [hd] at HD
          have HS : Hid (s.dup (k + 1) = s.dup k ++ [(k : Int)]) := Lib.hid (by rw [HN0.out, HI.out, hd]; simp)
          clear hd
          go_wp2_with fail
          refine HOF.out.mono ?_
          rintro e w' ⟨rfl, rfl⟩
          go_wp2_with fail
          refine HD.out.mono ?_
          rintro e w2 ⟨rfl, hb⟩
          have HW2 := Lib.hid (HW.out.below hb)
          have HBw2 := Lib.hid (stay HB.out hb)
          clear hb
          go_upto_region 7 with fail
          refine wp_region_lit ?_
          refine takeL (u3) rfl (by go_simp) ?_
          try simp only [Act.put, List.setIfInBounds_toArray, List.set_cons_succ, List.set_cons_zero]
          refine takeL (.int .i64 k) rfl (by go_simp) ?_
          try simp only [Act.put, List.setIfInBounds_toArray, List.set_cons_succ, List.set_cons_zero]
          refine wpList_run (.slice (some ⟨w2.heap.size, 0, none⟩) 1 1) (w2.alloc (.cells #[.int .i64 k] 3)) rfl (by go_simp) ?_
          try simp only [Act.put, List.setIfInBounds_toArray, List.set_cons_succ, List.set_cons_zero]
          have hbl : Below w2.heap.size w2 (w2.alloc (.cells #[.int .i64 k] 3)) := (Below.refl _ _).alloc (Nat.le_refl _) _
          have hli : Kl.Own (w2.alloc (.cells #[.int .i64 k] 3)) w2.heap.size (.slice (some ⟨w2.heap.size, 0, none⟩) 1 1) [(k : Int)] := Kl.Own.lit w2 w2.heap.size (Nat.le_refl _) [(k : Int)] (by simp) _ rfl
          refine Kl.app_L (HW2.out.below hbl) (Nat.le_trans HBw2.out.size hbl.size) hli.ints (by have := HKL.out; simp only [List.length_cons, List.length_nil]; omega) rfl rfl rfl ?_
          intro s2 w3 ho2 hb2
          try simp only [Act.put, List.setIfInBounds_toArray, List.set_cons_succ, List.set_cons_zero]
          refine takeL (s2) rfl (by go_simp) ?_
          try simp only [Act.put, List.setIfInBounds_toArray, List.set_cons_succ, List.set_cons_zero]
          refine wpList_nil ?_
          have HO2 := Lib.hid ho2
          have HB3 := Lib.hid ((HBw2.out.trans (hbl.mono HBw2.out.size)).trans hb2)
          clear hbl hli ho2 hb2
          go_wp2_with fail
          go_roundg (64 - (k + 1))
          case measure => omega
          case rel => exact ⟨k + 1, by omega, by omega, by go_num, by rw [HS.out]; exact HO2.out, HB3.out⟩
    · obtain rfl : k = 64 := by omega
      have hk1 : ¬ ((64 : Nat) : Int) < 64 := by decide
      clear hb
      go_wp2_with fail
      go_ret
      exact ⟨_, rfl, HW.out, HB.out⟩
set_option maxRecDepth 100000 in
theorem rNew_no (w : World) (n : Int) (hn : n < 1 ∨ 16 < n) : Calls Tryz.prog 7 #[.int .i64 n] w fun e w' => e = .returned (.tuple #[.pointer none, .int .i64 1]) ∧ w = w' := by
  have HC := Lib.hid (rnew_no w n hn)
  clear hn
  go_enter Tryz.func7, Tryz.ntmps7
  go_wp2_with fail
  refine HC.out.mono ?_
  rintro e w' ⟨rfl, rfl⟩
  go_wp2_with fail
  go_ret2
  exact ⟨rfl, rfl⟩
theorem infoHz : (Tryz.prog.info? 58).map (fun i => (i.zero, i.size, i.bytes)) = some (some (.agg (hdE noHd).toArray), 72, 128) := by kernel_rfl
theorem madeHd (n : Nat) : (madeCells (hdE noHd).toArray (n * 72)).toList = (List.replicate n noHd).flatMap hdE := by
  apply List.ext_getElem?
  intro j
  by_cases hj : j < n * 72
  · have h1 := fm_at hdE_len (l := List.replicate n noHd) (i := j / 72) (j := j % 72) (f := noHd) (by rw [List.getElem?_replicate, if_pos (by omega)]) (by omega)
    rw [show j / 72 * 72 + j % 72 = j by omega] at h1
    rw [h1]
    unfold madeCells
    simp only [Array.toList_map, Array.toList_range, List.getElem?_map, List.getElem?_range hj, Option.map_some]
    have h2 : j % 72 < (hdE noHd).length := by rw [hdE_len]; omega
    rw [List.getElem?_eq_getElem h2]
    congr 1
    simp only [List.size_toArray, hdE_len]
    rw [getElem!_pos _ _ (by simpa [hdE_len] using h2)]
    simp
  · rw [List.getElem?_eq_none (by simp [madeCells]; omega), List.getElem?_eq_none (by rw [fm_len hdE_len, List.length_replicate]; omega)]
theorem makeHd (n : Nat) (hn : n ≤ 1000) (w : World) : (Instr.makeSlice 48 (.int .i64 (n : Int)) (.int .i64 (n : Int))).run Tryz.prog w = .ok (.slice (some ⟨w.heap.size, 0, none⟩) n n) (w.alloc (.cells (madeCells (hdE noHd).toArray (n * 72)) 58)) := by
  obtain ⟨i, hi, hz, hs, hb⟩ : ∃ i, Tryz.prog.info? 58 = some i ∧ i.zero = some (.agg (hdE noHd).toArray) ∧ i.size = 72 ∧ i.bytes = 128 := by
    have := infoHz
    cases hq : Tryz.prog.info? 58 with
    | none => simp [hq] at this
    | some i => simp [hq] at this; exact ⟨i, rfl, this⟩
  have := run_makeSlice (P := Tryz.prog) w 48 58 i _ Tryz.underlying48 hi hz .i64 .i64 n n (by omega) (Int.le_refl _) (by rw [hs]; omega) (by rw [hb]; omega) (by omega)
  rw [hs] at this
  exact this
set_option maxRecDepth 100000 in
theorem rNew_yes (w : World) (n : Nat) (h1 : 1 ≤ n) (h2 : n ≤ 16) : Calls Tryz.prog 7 #[.int .i64 n] w fun e w' => ∃ R, e = .returned (.tuple #[.pointer (some ⟨R.b, 0, none⟩), .int .i64 0]) ∧ RAt w' R (newFs n) ∧ Below w.heap.size w w' ∧ ∀ k, RFoot R k → w.heap.size ≤ k := by
  have HC := Lib.hid (rnew_yes w n h1 h2)
  have MK := fun w => makeHd n (by omega) w
  have HM := Lib.hid (madeHd n)
  generalize madeCells (hdE noHd).toArray (n * 72) = cs at *
  go_enter Tryz.func7, Tryz.ntmps7
  go_wp2_with fail
  refine HC.out.mono ?_
  rintro e w1 ⟨cb, cr, cap, tl, rfl, hc, hb, hcb, hcr⟩
  have HC1 := Lib.hid hc
  have HB1 := Lib.hid hb
  have HG := Lib.hid (And.intro hcb hcr)
  clear hc hb hcb hcr
  go_wp2_with fail
  go_ret2
  have hs1 := HB1.out.size
  have hcl := HC1.out.blk.lt
  have hrl := HC1.out.row.lt
  have hb2 := two_below w1 (.cells cs 58) (.cells #[.pointer (some ⟨cb, 0, none⟩), .slice (some ⟨w1.heap.size, 0, none⟩) n n] 50)
  refine ⟨⟨w1.heap.size + 1, cb, cr, cap, tl, w1.heap.size, n⟩, rfl, ⟨Kl.Blk.newAt _ _ _ (by simp) (by simp [newFs, newCk]), HC1.out.below hb2, ?_, ?_⟩, HB1.out.trans (hb2.mono hs1), fun k hk => ?_⟩
  · have h3 := (Blk.new w1 cs 58).alloc (.cells #[.pointer (some ⟨cb, 0, none⟩), .slice (some ⟨w1.heap.size, 0, none⟩) n n] 50)
    rw [HM.out] at h3
    exact h3
  · have := HC1.out.ne
    simp only
    omega
  · have := HG.out
    simp only [RFoot] at hk
    rcases hk with rfl | rfl | rfl | rfl
    · omega
    · exact this.1
    · exact this.2
    · exact hs1

end Go.Proofs.YtaemjglblfencaaGreatDoor
