/- Something held by the statements' own frames. -/
import Derived.Test.YtaemjglblfencaaGreatDoorQa
namespace Go.Proofs.YtaemjglblfencaaGreatDoor
set_option linter.unusedSimpArgs false
set_option linter.unusedVariables false
open Go.RowKit Kl

theorem store_O {t : TypeId} {x y : Operand} {g off : Nat} {l : List Value} {cs : Array Value} {o : Oper} {a : Act} {w : World} {K : Act → World → Prop} {Q : Exit → Act → World → Prop} (dst : Option Tmp) (hd : o.dst = dst) (ho : o.op = .store t x y)
    (hb : Blk w g l) (hfit : off + cs.size ≤ l.length) (hi : (Tryz.prog.info? t).map (·.size) = some cs.size) (h1 : ∀ v ∈ cs, v.oneCell' = true) (hx : a.eval x = .pointer (some ⟨g, off, none⟩)) (hy : a.eval y = .agg cs)
    (h : ∀ wX, Blk wX g (splice l off cs).toList → Only (fun k => k = g) w wX → wX.heap.size = w.heap.size → K (a.put dst undef) wX) : o.wp Tryz.prog a w K Q := by
  subst hd
  exact wp_store_at t x y ho g off cs hx hy l hb hi hfit h1 (h _ (hb.row _) ((Only.refl (fun k => k = g) w).setRow (.inl rfl) _) (by simp))
theorem infoHd : (Tryz.prog.info? 58).map (·.size) = some 72 := by kernel_rfl
theorem hdE_one (x : Hd) : ∀ v ∈ hdE x, v.oneCell' = true := fun v hv => by
  unfold hdE at hv
  split at hv
  · rcases List.mem_append.1 hv with h | h
    · exact u8s_one _ v (by simpa using h)
    · rcases List.mem_append.1 h with h | h
      · exact u8s_one _ v (by simpa using h)
      · exact i64s_one _ v (by simpa using h)
  · rcases List.mem_append.1 hv with h | h
    · exact u8s_one _ v (by simpa using h)
    · rcases List.mem_append.1 h with h | h
      · exact u8s_one _ v (by simpa using h)
      · exact i64s_one _ v (by simpa using h)
/-- A part of a row of such turned. -/
theorem splice_part : ∀ {l : List Hd} {k : Nat} {x y : Hd} {o : Nat} {cs : Array Value}, l[k]? = some x → o + cs.size ≤ 72 → splice (hdE x) o cs = (hdE y).toArray → splice (l.flatMap hdE) (k * 72 + o) cs = ((l.set k y).flatMap hdE).toArray
  | [], k, x, y, o, cs, h, _, _ => by simp at h
  | z :: r, 0, x, y, o, cs, h, ho, e => by
    simp only [List.getElem?_cons_zero, Option.some.injEq] at h
    subst h
    rw [List.set_cons_zero, List.flatMap_cons, List.flatMap_cons, Nat.zero_mul, Nat.zero_add]
    have e2 := congrArg Array.toList e
    unfold splice at e2 ⊢
    simp only at e2
    congr 1
    rw [← e2, List.take_append_of_le_length (by rw [hdE_len]; omega), List.drop_append_of_le_length (by rw [hdE_len]; omega)]
    simp
  | z :: r, k + 1, x, y, o, cs, h, ho, e => by
    rw [List.set_cons_succ, List.flatMap_cons, List.flatMap_cons]
    have ih := splice_part (l := r) (k := k) (o := o) (by simpa using h) ho e
    unfold splice at ih ⊢
    have ih2 := congrArg Array.toList ih
    simp only at ih2
    rw [← ih2]
    congr 1
    have e1 : (k + 1) * 72 + o = (hdE z).length + (k * 72 + o) := by rw [hdE_len]; omega
    rw [e1, List.take_append, List.append_assoc, List.append_assoc, List.append_assoc]
    congr 1
    · exact List.take_of_length_le (by omega)
    · congr 1
      · congr 1; omega
      · congr 1
        rw [List.drop_append, List.drop_eq_nil_of_le (by omega), List.nil_append]
        congr 1
        omega
theorem splice_nowR {l : List Hd} {k : Nat} {x : Hd} (hk : l[k]? = some x) (hx : x.Ok) {p : List Int} (hp : p.length = 32) : splice (l.flatMap hdE) (k * 72 + 32) (u8s p).toArray = ((l.set k { x with now := p }).flatMap hdE).toArray := by
  refine splice_part hk (by simp [hp]) ?_
  have hy : hdE { x with now := p } = u8s x.base ++ (u8s p ++ i64s x.heads) := if_pos ⟨hx.base.length, hp, hx.heads⟩
  rw [hdE_eq hx, hy]
  have := splice_at (l := u8s x.base) (m := u8s x.now) (r := i64s x.heads) (u8s p).toArray (by simp [hp, hx.now.length])
  rw [show (u8s x.base).length = 32 by simp [hx.base.length]] at this
  exact this
theorem splice_baseR {l : List Hd} {k : Nat} {x : Hd} (hk : l[k]? = some x) (hx : x.Ok) {p : List Int} (hp : p.length = 32) : splice (l.flatMap hdE) (k * 72) (u8s p).toArray = ((l.set k { x with base := p }).flatMap hdE).toArray := by
  suffices h0 : splice (l.flatMap hdE) (k * 72 + 0) (u8s p).toArray = ((l.set k { x with base := p }).flatMap hdE).toArray by rwa [Nat.add_zero] at h0
  refine splice_part hk (by simp [hp]) ?_
  have hy : hdE { x with base := p } = u8s p ++ (u8s x.now ++ i64s x.heads) := if_pos ⟨hp, hx.now.length, hx.heads⟩
  rw [hdE_eq hx, hy]
  have := splice_at (l := []) (m := u8s x.base) (r := u8s x.now ++ i64s x.heads) (u8s p).toArray (by simp [hp, hx.base.length])
  simpa using this
set_option maxRecDepth 100000 in
theorem builtHd0 {l : List Int} (h : l.length = 32) : Tryz.prog.built 58 [(0, .agg (u8s l).toArray), (1, .agg (u8s l).toArray)] = some (u8s l ++ (u8s l ++ i64s (zeros 8))).toArray := by
  obtain ⟨x0, x1, x2, x3, x4, x5, x6, x7, x8, x9, x10, x11, x12, x13, x14, x15, x16, x17, x18, x19, x20, x21, x22, x23, x24, x25, x26, x27, x28, x29, x30, x31, rfl⟩ := page32 h
  kernel_rfl
theorem builtHd {l : List Int} (h : Pg l) : Tryz.prog.built 58 [(0, .agg (u8s l).toArray), (1, .agg (u8s l).toArray)] = some (hdE ⟨l, l, zeros 8⟩).toArray := by
  have e : hdE ⟨l, l, zeros 8⟩ = u8s l ++ (u8s l ++ i64s (zeros 8)) := if_pos ⟨h.length, h.length, rfl⟩
  rw [e]
  exact builtHd0 h.length
set_option maxRecDepth 100000 in
theorem builtHm0 {l : List Int} (h : l.length = 8) : Tryz.prog.built 58 [(2, .agg (i64s l).toArray)] = some (u8s (zeros 32) ++ (u8s (zeros 32) ++ i64s l)).toArray := by
  obtain ⟨x0, x1, x2, x3, x4, x5, x6, x7, rfl⟩ := heads8 h
  kernel_rfl
theorem builtHm {l : List Int} (h : l.length = 8) : Tryz.prog.built 58 [(2, .agg (i64s l).toArray)] = some (hdE ⟨zeros 32, zeros 32, l⟩).toArray := by
  have e : hdE ⟨zeros 32, zeros 32, l⟩ = u8s (zeros 32) ++ (u8s (zeros 32) ++ i64s l) := if_pos ⟨rfl, rfl, h⟩
  rw [e]
  exact builtHm0 h
theorem Only.rfoot {w w' : World} {R : Rl} (h : Only (Kl.foot R.cb R.cr) w w') : Only (RFoot R) w w' := h.more fun k _ hk => Go.Proofs.YtaemjglblfencaaGreatDoor.rfoot k hk
set_option maxRecDepth 100000 in
theorem rhold_any {B : Nat} {w : World} {R : Rl} {s : Fs} (h : RAt w R s) (ho : s.Ok B) (i key : Int) (x : Hd) : Calls Tryz.prog 35 #[.pointer (some ⟨R.b, 0, none⟩), .int .i64 i, .int .i64 key, .agg (hdE x).toArray] w fun e w' => e = .returned (.bool (s.may i key)) ∧ RAt w' R (s.put i key x) ∧ Only (RFoot R) w w' := by
  have HR0 := Lib.hid h
  have HO := Lib.hid ho
  clear h ho
  go_enter Tryz.func35, Tryz.ntmps35
  go_upto_region 0 with fail
  refine wp_region_lit ?_
  refine box_g (cs := (hdE x).toArray) rfl rfl ?_
  intro w1 hA hb hl
  try simp only [Act.put, List.setIfInBounds_toArray, List.set_cons_succ, List.set_cons_zero]
  refine takeL (.bool false) rfl (by go_simp) ?_
  try simp only [Act.put, List.setIfInBounds_toArray, List.set_cons_succ, List.set_cons_zero]
  refine wpList_nil ?_
  have HB1 : Hid (Blk w1 w.heap.size (hdE x)) := Lib.hid (by simpa using hA)
  have HBW := Lib.hid hb
  have HR := Lib.hid (HR0.out.below hb)
  have HLT := Lib.hid (fun k hk => HR0.out.lt (k := k) hk)
  clear hA hb hl HR0
  have HH := Lib.hid (rhas_any w1 R.cb R.cr R.cap R.tl s.c HR.out.clk i)
  have c0 := HR.out.blk.cell (i := 0) rfl
  cases hg : s.c.get i with
  | none =>
    rw [hg] at HH
    have hm : s.may i key = false := by unfold Fs.may Ck.mayPut Ck.may; rw [hg]; simp
    have HP : Hid (s.put i key x = s) := Lib.hid (by unfold Fs.put; rw [hm, if_neg (by simp)])
    have HMM := Lib.hid hm
    clear hm hg
    simp only [Option.isSome_none] at HH
    go_wp2_with fail
    refine HH.out.mono ?_
    rintro e w' ⟨rfl, rfl⟩
    go_wp2_with fail
    go_ret
    exact ⟨by rw [HMM.out]; rfl, by rw [HP.out]; exact HR.out, Only.of_below HBW.out⟩
  | some f =>
    rw [hg] at HH
    obtain ⟨k, rfl, hk, hf⟩ := Ck.get_some hg
    have HF := Lib.hid hf
    simp only [Option.isSome_some] at HH
    have HD := Lib.hid (rdirty_any HR.out HO.out hk)
    have HM0 : Hid (s.may k key = (!s.dirtyN k && s.c.mayPut k key)) := Lib.hid (by unfold Fs.may; rw [Fs.dirty_nat])
    clear hg hf hk
    cases hd : s.dirtyN k with
    | true =>
      rw [hd] at HD
      have hm : s.may (k : Int) key = false := by rw [HM0.out, hd]; rfl
      have HP : Hid (s.put k key x = s) := Lib.hid (by unfold Fs.put; rw [hm, if_neg (by simp)])
      have HMM := Lib.hid hm
      clear hm hd HM0
      go_wp2_with fail
      refine HH.out.mono ?_
      rintro e w' ⟨rfl, rfl⟩
      go_wp2_with fail
      refine HD.out.mono ?_
      rintro e w2 ⟨rfl, hb⟩
      have HB2 := Lib.hid hb
      clear hb
      go_wp2_with fail
      go_ret
      exact ⟨by rw [HMM.out]; rfl, by rw [HP.out]; exact HR.out.below HB2.out, Only.of_below (stay HBW.out HB2.out)⟩
    | false =>
      rw [hd] at HD HM0
      have hm0 := HM0.out
      simp only [Bool.not_false, Bool.true_and] at hm0
      have HM := Lib.hid hm0
      have HPU := Lib.hid fun (w' : World) (hb : Below w1.heap.size w1 w') => rput_any w' R.cb R.cr R.cap R.tl s.c (HR.out.clk.below hb) HO.out.ck k key
      clear hd hm0 HM0
      cases hp : s.c.mayPut k key with
      | false =>
        rw [hp] at HPU HM
        have HPC : Hid (s.c.put k key = s.c) := Lib.hid (put_no hp)
        clear hp
        go_wp2_with fail
        refine HH.out.mono ?_
        rintro e w' ⟨rfl, rfl⟩
        go_wp2_with fail
        refine HD.out.mono ?_
        rintro e w2 ⟨rfl, hb⟩
        have HB2 := Lib.hid hb
        have c2 := (HR.out.below hb).blk.cell (i := 0) rfl
        clear hb
        go_wp2_with fail
        refine (HPU.out _ HB2.out).mono ?_
        rintro e w3 ⟨rfl, hc, hon⟩
        have HC3 := Lib.hid hc
        have HO3 := Lib.hid hon
        clear hc hon
        go_wp2_with fail
        go_ret
        refine ⟨by rw [HM.out]; rfl, ?_, (Only.of_below (stay HBW.out HB2.out)).trans (Only.rfoot HO3.out)⟩
        have hc := HC3.out
        rw [HPC.out] at hc
        unfold Fs.put
        rw [HM.out, if_neg (by simp)]
        exact (HR.out.below HB2.out).clock hc HO3.out rfl
      | true =>
        rw [hp] at HPU HM
        have HMP := Lib.hid hp
        clear hp
        go_wp2_with fail
        refine HH.out.mono ?_
        rintro e w' ⟨rfl, rfl⟩
        go_wp2_with fail
        refine HD.out.mono ?_
        rintro e w2 ⟨rfl, hb⟩
        have HB2 := Lib.hid hb
        have c2 := (HR.out.below hb).blk.cell (i := 0) rfl
        clear hb
        go_wp2_with fail
        refine (HPU.out _ HB2.out).mono ?_
        rintro e w4 ⟨rfl, hc, hon⟩
        have HO3 := Lib.hid hon
        have HR4 := Lib.hid ((HR.out.below HB2.out).clock hc hon (by rw [Ck.put_len]))
        obtain ⟨n, hn⟩ : ∃ n, (s.c.put k key).l.length = n := ⟨_, rfl⟩
        have HNN : Hid ((s.c.put (k : Int) key).l.length = n) := Lib.hid hn
        have hkn : k < n := by have := (List.getElem?_eq_some_iff.1 HF.out).1; rw [Ck.put_len] at hn; omega
        have HHL : Hid (s.h.length = n ∧ k < n) := Lib.hid ⟨by rw [HO.out.len, ← hn, Ck.put_len], hkn⟩
        have hk1 : (k : Int) < (n : Int) := by omega
        have HB4 : Hid (Blk w4 w.heap.size (hdE x)) := Lib.hid ((HB1.out.below HB2.out HB1.out.lt).only hon (by rintro (e | e) <;> (have := HLT.out _ (.inr (.inl rfl)); have := HLT.out _ (.inr (.inr (.inl rfl))); omega)))
        have HN7 : Hid (¬ w.heap.size = R.hr) := Lib.hid (by have := HLT.out _ (.inr (.inr (.inr rfl))); omega)
        have HNB : Hid (¬ R.b = R.hr) := Lib.hid HR4.out.n1.2.2.1
        clear hc hon c0 c2 hn hkn HH HD HPU
        obtain ⟨g7, hg7⟩ : ∃ g, w.heap.size = g := ⟨_, rfl⟩
        rw [hg7] at HB4 HN7 ⊢
        go_wp2_with fail
        go_upto_region 3 with fail
        refine startH (fun wq => Only (fun q => q = R.hr) w4 wq) (by kernel_rfl) ?_
        refine takeH 0 (some 31) (.pointer (some ⟨R.b, 0, none⟩)) rfl rfl (by kernel_rfl) (by kernel_rfl) (by kernel_rfl) (fun _ _ _ h => h) rfl (fun wq hS => by go_simp) (Only.refl _ _).drew ?_
        try simp only [Act.put, List.setIfInBounds_toArray, List.set_cons_succ, List.set_cons_zero]
        refine takeH 1 (some 32) (.pointer (some ⟨R.b, 0, none⟩)) rfl rfl (by kernel_rfl) (by kernel_rfl) (by kernel_rfl) (fun _ _ _ h => h) rfl (fun wq hS => by go_simp) (Only.refl _ _).drew ?_
        try simp only [Act.put, List.setIfInBounds_toArray, List.set_cons_succ, List.set_cons_zero]
        refine takeH 2 (some 33) (.pointer (some ⟨R.b, 1, none⟩)) rfl rfl (by kernel_rfl) (by kernel_rfl) (by kernel_rfl) (fun _ _ _ h => h) rfl (fun wq hS => by go_simp) (Only.refl _ _).drew ?_
        try simp only [Act.put, List.setIfInBounds_toArray, List.set_cons_succ, List.set_cons_zero]
        refine takeH 3 (some 34) (.slice (some ⟨R.hr, 0, none⟩) n R.hcap) rfl rfl (by kernel_rfl) (by kernel_rfl) (by kernel_rfl) (fun _ _ _ h => h) rfl (fun wq hS => by have hq := (HR4.out.blk.only hS HNB.out).cell (i := 1) rfl; rw [HNN.out] at hq; go_simp) (Only.refl _ _).drew ?_
        try simp only [Act.put, List.setIfInBounds_toArray, List.set_cons_succ, List.set_cons_zero]
        refine takeH 4 (some 35) (.int .i64 k) rfl rfl (by kernel_rfl) (by kernel_rfl) (by kernel_rfl) (fun _ _ _ h => h) rfl (fun wq hS => by go_simp) (Only.refl _ _).drew ?_
        try simp only [Act.put, List.setIfInBounds_toArray, List.set_cons_succ, List.set_cons_zero]
        refine takeH 5 (some 36) (.agg (hdE x).toArray) rfl rfl (by kernel_rfl) (by kernel_rfl) (by kernel_rfl) (fun _ _ _ h => h) rfl (fun wq hS => by exact exec_load_at wq _ _ 58 _ rfl (g7) (0) rfl ((hdE x).toArray) _ Tryz.underlying58 rfl (by simp only [List.size_toArray, hdE_len]; exact infoHd) (Blk.all (HB4.out.only hS HN7.out) rfl)) (Only.refl _ _).drew ?_
        try simp only [Act.put, List.setIfInBounds_toArray, List.set_cons_succ, List.set_cons_zero]
        refine takeH 6 (some 37) (.pointer (some ⟨R.hr, k * 72, none⟩)) rfl rfl (by kernel_rfl) (by kernel_rfl) (by kernel_rfl) (fun _ _ _ h => h) rfl (fun wq hS => by go_simp) (Only.refl _ _).drew ?_
        try simp only [Act.put, List.setIfInBounds_toArray, List.set_cons_succ, List.set_cons_zero]
        refine oneH 7 (by kernel_rfl) rfl rfl fun K hK => ?_
        refine store_O (off := k * 72) (cs := (hdE x).toArray) none rfl rfl HR4.out.row.drew (by simp only [List.size_toArray, hdE_len, fm_len hdE_len]; have := HHL.out; omega) (by simp only [List.size_toArray, hdE_len]; exact infoHd) (fun v hv => hdE_one x v (by simpa using hv)) rfl rfl fun w5 hD hO hlD => ?_
        rw [fm_splice hdE_len x (by have := HHL.out; show k < s.h.length; omega)] at hD
        have HD5 : Hid (Blk w5 R.hr ((s.h.set k x).flatMap hdE)) := Lib.hid (by simpa using hD)
        have HO5 := Lib.hid ((((Only.refl _ _).drew : Only (fun q => q = R.hr) w4 w4.drew)).trans hO)
        clear hD hO hlD
        refine hK _ _ HO5.out ?_
        clear hK K
        try simp only [Act.put, List.setIfInBounds_toArray, List.set_cons_succ, List.set_cons_zero]
        refine wpAnyH_done (by kernel_rfl) ?_ _
        go_wp2_with fail
        go_ret
        refine ⟨by rw [HM.out]; rfl, ?_, ((Only.of_below (stay HBW.out HB2.out)).trans (Only.rfoot HO3.out)).trans (HO5.out.more fun q _ hq => .inr (.inr (.inr hq)))⟩
        have := HR4.out.turn HO5.out HD5.out
        unfold Fs.put
        rw [HM.out, if_pos rfl, Int.toNat_natCast]
        exact this

set_option maxRecDepth 100000 in
theorem rHold_any {B : Nat} {w : World} {R : Rl} {s : Fs} (h : RAt w R s) (ho : s.Ok B) (i p : Int) {base : List Int} (hl : Pg base) : Calls Tryz.prog 11 #[.pointer (some ⟨R.b, 0, none⟩), .int .i64 i, .int .i64 p, .agg (u8s base).toArray] w fun e w' => e = .returned (.bool (s.hold i p base).1) ∧ RAt w' R (s.hold i p base).2 ∧ Only (RFoot R) w w' := by
  have HR0 := Lib.hid h
  have HO := Lib.hid ho
  have HL := Lib.hid hl
  unfold Fs.hold
  by_cases hp : 0 ≤ p ∧ p < 64
  · have hpk : pageKey p = true := by simp [pageKey]; omega
    simp only [if_pos hpk]
    have d0 : decide (0 ≤ p) = true := decide_eq_true hp.1
    have d1 : decide (p < 64) = true := decide_eq_true hp.2
    clear h ho hl hpk
    go_enter Tryz.func11, Tryz.ntmps11
    go_upto_region 0 with fail
    refine wp_region_lit ?_
    refine box_g (cs := (u8s base).toArray) rfl rfl ?_
    intro w1 hA hb hl2
    try simp only [Act.put, List.setIfInBounds_toArray, List.set_cons_succ, List.set_cons_zero]
    refine takeL (.bool false) rfl (by go_simp) ?_
    try simp only [Act.put, List.setIfInBounds_toArray, List.set_cons_succ, List.set_cons_zero]
    refine wpList_nil ?_
    have HBX : Hid (Blk w1 w.heap.size (u8s base)) := Lib.hid (by simpa using hA)
    have HBW := Lib.hid hb
    have HC := Lib.hid (rhold_any (HR0.out.below hb) HO.out i p ⟨base, base, zeros 8⟩)
    clear hA hb hl2 hp
    go_upto_region 1 with fail
    refine wp_region_lit ?_
    refine takeL (.int .i64 p) rfl (by go_simp) ?_
    try simp only [Act.put, List.setIfInBounds_toArray, List.set_cons_succ, List.set_cons_zero]
    refine takeL (.bool true) rfl (by go_simp) ?_
    try simp only [Act.put, List.setIfInBounds_toArray, List.set_cons_succ, List.set_cons_zero]
    refine takeL (.bool true) rfl (by go_simp) ?_
    try simp only [Act.put, List.setIfInBounds_toArray, List.set_cons_succ, List.set_cons_zero]
    refine takeL (.int .i64 p) rfl (by go_simp) ?_
    try simp only [Act.put, List.setIfInBounds_toArray, List.set_cons_succ, List.set_cons_zero]
    refine takeL (.bool true) rfl (by go_simp) ?_
    try simp only [Act.put, List.setIfInBounds_toArray, List.set_cons_succ, List.set_cons_zero]
    refine takeL (.bool true) rfl (by go_simp) ?_
    try simp only [Act.put, List.setIfInBounds_toArray, List.set_cons_succ, List.set_cons_zero]
    refine takeL (.bool true) rfl (by go_simp) ?_
    try simp only [Act.put, List.setIfInBounds_toArray, List.set_cons_succ, List.set_cons_zero]
    refine takeL (.pointer (some ⟨R.b, 0, none⟩)) rfl (by go_simp) ?_
    try simp only [Act.put, List.setIfInBounds_toArray, List.set_cons_succ, List.set_cons_zero]
    refine takeL (.int .i64 i) rfl (by go_simp) ?_
    try simp only [Act.put, List.setIfInBounds_toArray, List.set_cons_succ, List.set_cons_zero]
    refine takeL (.int .i64 p) rfl (by go_simp) ?_
    try simp only [Act.put, List.setIfInBounds_toArray, List.set_cons_succ, List.set_cons_zero]
    refine load39 (cs := (u8s base).toArray) (Blk.all HBX.out rfl) (by rw [u8s_size, HL.out.length]) rfl rfl ?_
    try simp only [Act.put, List.setIfInBounds_toArray, List.set_cons_succ, List.set_cons_zero]
    refine load39 (cs := (u8s base).toArray) (Blk.all HBX.out rfl) (by rw [u8s_size, HL.out.length]) rfl rfl ?_
    try simp only [Act.put, List.setIfInBounds_toArray, List.set_cons_succ, List.set_cons_zero]
    refine takeL (.agg (hdE ⟨base, base, zeros 8⟩).toArray) rfl (by exact exec_build _ _ _ _ 58 _ rfl #[(0, .agg (u8s base).toArray), (1, .agg (u8s base).toArray)] (by simp only [List.map_toArray, List.map_cons, List.map_nil]; rfl) _ (run_build _ 58 _ _ (builtHd HL.out))) ?_
    try simp only [Act.put, List.setIfInBounds_toArray, List.set_cons_succ, List.set_cons_zero]
    refine wpList_op rfl fun K hK => ?_
    go_simp
    refine (HC.out).mono ?_
    rintro e w3 ⟨rfl, hr, ho⟩
    have HR3 := Lib.hid hr
    have HO3 := Lib.hid ho
    clear hr ho
    refine hK _ _ ?_
    clear hK K
    try simp only [Act.put, List.setIfInBounds_toArray, List.set_cons_succ, List.set_cons_zero]
    refine takeL (.bool (s.may i p)) rfl (by go_simp) ?_
    try simp only [Act.put, List.setIfInBounds_toArray, List.set_cons_succ, List.set_cons_zero]
    refine takeL (.bool (s.may i p)) rfl (by go_simp) ?_
    try simp only [Act.put, List.setIfInBounds_toArray, List.set_cons_succ, List.set_cons_zero]
    refine wpList_nil ?_
    go_wp2_with fail
    go_ret
    exact ⟨rfl, HR3.out, (Only.of_below HBW.out).trans HO3.out⟩
  · have hpk : pageKey p = false := by simp [pageKey]; omega
    rw [hpk]
    simp only [Bool.false_eq_true, if_false]
    have HBW := Lib.hid (Kl.alloc_below w (.cells (u8s base).toArray 39))
    clear h ho hl hpk
    by_cases h0 : 0 ≤ p
    · have d0 : decide (0 ≤ p) = true := decide_eq_true h0
      have d1 : decide (p < 64) = false := decide_eq_false (by omega)
      clear hp
      go_enter Tryz.func11, Tryz.ntmps11
      go_wp2_with fail
      go_ret
      exact ⟨rfl, HR0.out.below HBW.out, Only.of_below HBW.out⟩
    · have d0 : decide (0 ≤ p) = false := decide_eq_false h0
      clear hp
      go_enter Tryz.func11, Tryz.ntmps11
      go_wp2_with fail
      go_ret
      exact ⟨rfl, HR0.out.below HBW.out, Only.of_below HBW.out⟩
set_option maxRecDepth 100000 in
theorem rHoldMap_any {B : Nat} {w : World} {R : Rl} {s : Fs} (h : RAt w R s) (ho : s.Ok B) (i id : Int) {heads : List Int} (hl : heads.length = 8) : Calls Tryz.prog 13 #[.pointer (some ⟨R.b, 0, none⟩), .int .i64 i, .int .i64 id, .agg (i64s heads).toArray] w fun e w' => e = .returned (.bool (s.holdMap i id heads).1) ∧ RAt w' R (s.holdMap i id heads).2 ∧ Only (RFoot R) w w' := by
  have HR0 := Lib.hid h
  have HO := Lib.hid ho
  have HL := Lib.hid hl
  unfold Fs.holdMap
  by_cases hp : 0 ≤ id ∧ id < 8
  · simp only [if_pos hp]
    have d0 : decide (0 ≤ id) = true := decide_eq_true hp.1
    have d1 : decide (id < 8) = true := decide_eq_true hp.2
    clear h ho hl
    go_enter Tryz.func13, Tryz.ntmps13
    go_upto_region 0 with fail
    refine wp_region_lit ?_
    refine box_g (cs := (i64s heads).toArray) rfl rfl ?_
    intro w1 hA hb hl2
    try simp only [Act.put, List.setIfInBounds_toArray, List.set_cons_succ, List.set_cons_zero]
    refine takeL (.bool false) rfl (by go_simp) ?_
    try simp only [Act.put, List.setIfInBounds_toArray, List.set_cons_succ, List.set_cons_zero]
    refine wpList_nil ?_
    have HBX : Hid (Blk w1 w.heap.size (i64s heads)) := Lib.hid (by simpa using hA)
    have HBW := Lib.hid hb
    have HC := Lib.hid (rhold_any (HR0.out.below hb) HO.out i (64 + id) ⟨zeros 32, zeros 32, heads⟩)
    obtain ⟨hp0, hp1⟩ := hp
    clear hA hb hl2
    go_upto_region 1 with fail
    refine wp_region_lit ?_
    refine takeL (.int .i64 id) rfl (by go_simp) ?_
    try simp only [Act.put, List.setIfInBounds_toArray, List.set_cons_succ, List.set_cons_zero]
    refine takeL (.bool true) rfl (by go_simp) ?_
    try simp only [Act.put, List.setIfInBounds_toArray, List.set_cons_succ, List.set_cons_zero]
    refine takeL (.bool true) rfl (by go_simp) ?_
    try simp only [Act.put, List.setIfInBounds_toArray, List.set_cons_succ, List.set_cons_zero]
    refine takeL (.int .i64 id) rfl (by go_simp) ?_
    try simp only [Act.put, List.setIfInBounds_toArray, List.set_cons_succ, List.set_cons_zero]
    refine takeL (.bool true) rfl (by go_simp) ?_
    try simp only [Act.put, List.setIfInBounds_toArray, List.set_cons_succ, List.set_cons_zero]
    refine takeL (.bool true) rfl (by go_simp) ?_
    try simp only [Act.put, List.setIfInBounds_toArray, List.set_cons_succ, List.set_cons_zero]
    refine takeL (.bool true) rfl (by go_simp) ?_
    try simp only [Act.put, List.setIfInBounds_toArray, List.set_cons_succ, List.set_cons_zero]
    refine takeL (.pointer (some ⟨R.b, 0, none⟩)) rfl (by go_simp) ?_
    try simp only [Act.put, List.setIfInBounds_toArray, List.set_cons_succ, List.set_cons_zero]
    refine takeL (.int .i64 i) rfl (by go_simp) ?_
    try simp only [Act.put, List.setIfInBounds_toArray, List.set_cons_succ, List.set_cons_zero]
    refine takeL (.int .i64 id) rfl (by go_simp) ?_
    try simp only [Act.put, List.setIfInBounds_toArray, List.set_cons_succ, List.set_cons_zero]
    refine takeL (.int .i64 (64 + id)) rfl (by go_simp; exact Kl.wrap63 (by omega) (by omega)) ?_
    try simp only [Act.put, List.setIfInBounds_toArray, List.set_cons_succ, List.set_cons_zero]
    refine load41 (cs := (i64s heads).toArray) (Blk.all HBX.out rfl) (by simp [HL.out]) rfl rfl ?_
    try simp only [Act.put, List.setIfInBounds_toArray, List.set_cons_succ, List.set_cons_zero]
    refine takeL (.agg (hdE ⟨zeros 32, zeros 32, heads⟩).toArray) rfl (by exact exec_build _ _ _ _ 58 _ rfl #[(2, .agg (i64s heads).toArray)] (by simp only [List.map_toArray, List.map_cons, List.map_nil]; rfl) _ (run_build _ 58 _ _ (builtHm HL.out))) ?_
    try simp only [Act.put, List.setIfInBounds_toArray, List.set_cons_succ, List.set_cons_zero]
    refine wpList_op rfl fun K hK => ?_
    go_simp
    refine (HC.out).mono ?_
    rintro e w3 ⟨rfl, hr, ho⟩
    have HR3 := Lib.hid hr
    have HO3 := Lib.hid ho
    clear hr ho
    refine hK _ _ ?_
    clear hK K
    try simp only [Act.put, List.setIfInBounds_toArray, List.set_cons_succ, List.set_cons_zero]
    refine takeL (.bool (s.may i (64 + id))) rfl (by go_simp) ?_
    try simp only [Act.put, List.setIfInBounds_toArray, List.set_cons_succ, List.set_cons_zero]
    refine takeL (.bool (s.may i (64 + id))) rfl (by go_simp) ?_
    try simp only [Act.put, List.setIfInBounds_toArray, List.set_cons_succ, List.set_cons_zero]
    refine wpList_nil ?_
    go_wp2_with fail
    go_ret
    exact ⟨rfl, HR3.out, (Only.of_below HBW.out).trans HO3.out⟩
  · simp only [if_neg hp]
    have HBW := Lib.hid (Kl.alloc_below w (.cells (i64s heads).toArray 41))
    clear h ho hl
    by_cases h0 : 0 ≤ id
    · have d0 : decide (0 ≤ id) = true := decide_eq_true h0
      have d1 : decide (id < 8) = false := decide_eq_false (by omega)
      clear hp
      go_enter Tryz.func13, Tryz.ntmps13
      go_wp2_with fail
      go_ret
      exact ⟨rfl, HR0.out.below HBW.out, Only.of_below HBW.out⟩
    · have d0 : decide (0 ≤ id) = false := decide_eq_false h0
      clear hp
      go_enter Tryz.func13, Tryz.ntmps13
      go_wp2_with fail
      go_ret
      exact ⟨rfl, HR0.out.below HBW.out, Only.of_below HBW.out⟩

end Go.Proofs.YtaemjglblfencaaGreatDoor
