/- Pages and mapping pages told. -/
import Derived.Test.YtaemjglblfencaaGreatDoorFe
namespace Go.Proofs.YtaemjglblfencaaGreatDoor
set_option linter.unusedSimpArgs false
set_option linter.unusedVariables false
open Go.RowKit Kl

theorem i64s_one (l : List Int) : ∀ v ∈ (i64s l).toArray, v.oneCell' = true := fun v hv => by
  obtain ⟨z, _, rfl⟩ := List.mem_map.1 (by simpa using hv)
  rfl

theorem results_cct {P : Program} {fn : Func} {p q r : Tmp} {ty : TypeId} (h : fn.results = #[.cell p ty, .cell q ty, .tmp r]) (tmps : Array Value) (w : World) (g g' : Nat) (cs cs' : Array Value) (d : TypeDesc) (v : Value)
    (hp : tmps.getD p undef = .pointer (some ⟨g, 0, none⟩)) (hq : tmps.getD q undef = .pointer (some ⟨g', 0, none⟩)) (hv : tmps.getD r undef = v) (hu : P.underlying ty = some d) (hd : (match d with | .struct _ | .array _ _ => true | _ => false) = true) (hi : (P.info? ty).map (·.size) = some cs.size) (hi' : (P.info? ty).map (·.size) = some cs'.size)
    (hc : At w g 0 cs) (hc' : At w g' 0 cs') :
    (results fn tmps).run P w = .ok (.tuple #[.agg cs, .agg cs', v]) w := by
  have hp' : tmps[p]?.getD undef = .pointer (some ⟨g, 0, none⟩) := by simpa using hp
  have hq' : tmps[q]?.getD undef = .pointer (some ⟨g', 0, none⟩) := by simpa using hq
  have hv' : tmps[r]?.getD undef = v := by simpa using hv
  simp [results, h, hp', hq', hv', asAddr, run_load_at w g 0 ty cs d hu hd hi hc, run_load_at w g' 0 ty cs' d hu hd hi' hc']
def Fs.held (s : Fs) (p : Int) : Option Hd := (s.page p).bind fun k => s.h[k]?
def Fs.heldMap (s : Fs) (id : Int) : Option Hd := if 0 ≤ id ∧ id < 8 then (s.c.find (64 + id)).bind fun k => s.h[k]? else none
def pageR : Option Hd → Value
  | some x => .tuple #[.agg (u8s x.base).toArray, .agg (u8s x.now).toArray, .bool true]
  | none => .tuple #[.agg (u8s (zeros 32)).toArray, .agg (u8s (zeros 32)).toArray, .bool false]
def mapR : Option Hd → Value
  | some x => .tuple #[.agg (i64s x.heads).toArray, .bool true]
  | none => .tuple #[.agg (i64s (zeros 8)).toArray, .bool false]
set_option maxRecDepth 100000 in
theorem Page_no (v : Value) (p : Int) (w : World) (hc : ∀ w', Below w.heap.size w w' → Calls Tryz.prog 37 #[v, .int .i64 p] w' fun e w'' => e = .returned (.tuple #[.int .i64 0, .pointer none]) ∧ Below w'.heap.size w' w'') : Calls Tryz.prog 27 #[v, .int .i64 p] w fun e w' => e = .returned (pageR none) ∧ Below w.heap.size w w' := by
  have HC := Lib.hid hc
  have HZ32 := Lib.hid (zeros_length 32)
  clear hc
  unfold pageR
  go_enter Tryz.func27, Tryz.ntmps27
  go_upto_region 0 with fail
  refine wp_region_lit ?_
  refine alloc_g zero39 rfl ?_
  intro wa hA hb hl
  try simp only [Act.put, List.setIfInBounds_toArray, List.set_cons_succ, List.set_cons_zero]
  refine alloc_g zero39 rfl ?_
  intro wb hA2 hb2 hl2
  try simp only [Act.put, List.setIfInBounds_toArray, List.set_cons_succ, List.set_cons_zero]
  refine takeL (.bool false) rfl (by go_simp) ?_
  try simp only [Act.put, List.setIfInBounds_toArray, List.set_cons_succ, List.set_cons_zero]
  refine wpList_nil ?_
  have HBW := Lib.hid (hb.trans (hb2.mono hb.size))
  have H40 : Hid (Blk wb w.heap.size (u8s (zeros 32))) := Lib.hid (by simpa using hA.below hb2 hA.lt)
  have H50 : Hid (Blk wb wa.heap.size (u8s (zeros 32))) := Lib.hid (by simpa using hA2)
  have HG4 : Hid (w.heap.size ≤ w.heap.size) := Lib.hid (Nat.le_refl _)
  have HG5 : Hid (w.heap.size ≤ wa.heap.size) := Lib.hid hb.size
  have HN45 : Hid (w.heap.size ≠ wa.heap.size) := Lib.hid (Nat.ne_of_lt hl)
  clear hA hb hl hA2 hb2 hl2
  generalize wa.heap.size = g5 at *

  go_wp2_with fail
  refine (HC.out _ HBW.out).mono ?_
  rintro e w1 ⟨rfl, hb⟩
  have HB1 := Lib.hid (stay HBW.out hb)
  have H4 := Lib.hid (H40.out.below hb H40.out.lt)
  have H5 := Lib.hid (H50.out.below hb H50.out.lt)
  clear hb H40 H50 HBW
  go_wp2_with fail
  go_upto_region 3 with fail
  refine startH (fun wq => Only (fun k => k = w.heap.size ∨ k = g5) w1 wq ∧ Blk wq (w.heap.size) (u8s (zeros 32)) ∧ Blk wq g5 (u8s (zeros 32))) (by kernel_rfl) ?_
  refine takeH 0 (some 17) (.agg (u8s (zeros 32)).toArray) rfl rfl (by kernel_rfl) (by kernel_rfl) (by kernel_rfl) (fun _ _ _ h => h) rfl (fun wq hS => by exact exec_load_at wq _ _ 39 _ rfl (w.heap.size) 0 rfl ((u8s (zeros 32)).toArray) _ Tryz.underlying39 rfl (by rw [u8s_size, HZ32.out]; exact info39) (Blk.all hS.2.1 rfl)) ⟨(Only.refl _ _).drew, H4.out.drew, H5.out.drew⟩ ?_
  try simp only [Act.put, List.setIfInBounds_toArray, List.set_cons_succ, List.set_cons_zero]
  refine takeH 1 (some 18) (.agg (u8s (zeros 32)).toArray) rfl rfl (by kernel_rfl) (by kernel_rfl) (by kernel_rfl) (fun _ _ _ h => h) rfl (fun wq hS => by exact exec_load_at wq _ _ 39 _ rfl (g5) 0 rfl ((u8s (zeros 32)).toArray) _ Tryz.underlying39 rfl (by rw [u8s_size, HZ32.out]; exact info39) (Blk.all hS.2.2 rfl)) ⟨(Only.refl _ _).drew, H4.out.drew, H5.out.drew⟩ ?_
  try simp only [Act.put, List.setIfInBounds_toArray, List.set_cons_succ, List.set_cons_zero]
  refine oneH 2 (by kernel_rfl) rfl rfl fun K hK => ?_
  refine store_W none rfl rfl (H4.out.drew) (by simp only [u8s_size, List.size_toArray, List.length_map, HZ32.out, HZ32.out]) (by rw [u8s_size, HZ32.out]; exact info39) (u8s_one _) rfl rfl fun y1 hD hO => ?_
  have HS1 : Hid (Only (fun k => k = w.heap.size ∨ k = g5) w1 y1) := Lib.hid (((Only.refl (fun k => k = w.heap.size ∨ k = g5) w1).drew).trans (hO.more fun k _ hk => .inl hk))
  have D1 := Lib.hid hD
  have E1 := Lib.hid ((H5.out.drew).only hO HN45.out.symm)
  have HT1 : Hid (Only (fun k => k = w.heap.size ∨ k = g5) w1 y1 ∧ Blk y1 (w.heap.size) (u8s (zeros 32)) ∧ Blk y1 g5 (u8s (zeros 32))) := Lib.hid ⟨HS1.out, by simpa using D1.out, by simpa using E1.out⟩
  clear hD hO
  refine hK _ _ HT1.out ?_
  clear hK K
  try simp only [Act.put, List.setIfInBounds_toArray, List.set_cons_succ, List.set_cons_zero]
  refine oneH 3 (by kernel_rfl) rfl rfl fun K hK => ?_
  refine store_W none rfl rfl E1.out (by simp only [u8s_size, List.size_toArray, List.length_map, HZ32.out, HZ32.out]) (by rw [u8s_size, HZ32.out]; exact info39) (u8s_one _) rfl rfl fun y2 hD hO => ?_
  have HS2 : Hid (Only (fun k => k = w.heap.size ∨ k = g5) w1 y2) := Lib.hid ((HT1.out.1).trans (hO.more fun k _ hk => .inr hk))
  have D2 := Lib.hid hD
  have E2 := Lib.hid (D1.out.only hO HN45.out)
  have HT2 : Hid (Only (fun k => k = w.heap.size ∨ k = g5) w1 y2 ∧ Blk y2 (w.heap.size) (u8s (zeros 32)) ∧ Blk y2 g5 (u8s (zeros 32))) := Lib.hid ⟨HS2.out, by simpa using E2.out, by simpa using D2.out⟩
  clear hD hO
  refine hK _ _ HT2.out ?_
  clear hK K
  try simp only [Act.put, List.setIfInBounds_toArray, List.set_cons_succ, List.set_cons_zero]
  refine takeH 4 (some 6) (.bool false) rfl rfl (by kernel_rfl) (by kernel_rfl) (by kernel_rfl) (fun _ _ _ h => h) rfl (fun wq hS => by go_simp) HT2.out ?_
  try simp only [Act.put, List.setIfInBounds_toArray, List.set_cons_succ, List.set_cons_zero]
  refine wpAnyH_done (by kernel_rfl) ?_ _
  go_wp2_with fail
  exact bodyPost_ret (v := .tuple #[.agg (u8s (zeros 32)).toArray, .agg (u8s (zeros 32)).toArray, .bool false]) (results_cct rfl _ _ w.heap.size g5 _ _ _ _ rfl rfl rfl Tryz.underlying39 rfl (by rw [u8s_size, HZ32.out]; exact info39) (by rw [u8s_size, HZ32.out]; exact info39) (Blk.all E2.out rfl) (Blk.all D2.out rfl)) rfl ⟨rfl, HB1.out.trans (HT2.out.1.below HB1.out.size (fun k hk => hk.elim (fun e => by rw [e]; exact HG4.out) fun e => by rw [e]; exact HG5.out))⟩
set_option maxRecDepth 100000 in
theorem Page_yes {g : Nat} {key : Int} {x : Hd} (v : Value) (p : Int) (k : Value) (hx : x.Ok) (w : World) (hg : Blk w g (encH key x)) (hc : ∀ w', Below w.heap.size w w' → Calls Tryz.prog 37 #[v, .int .i64 p] w' fun e w'' => e = .returned (.tuple #[k, .pointer (some ⟨g, 0, none⟩)]) ∧ Below w'.heap.size w' w'') : Calls Tryz.prog 27 #[v, .int .i64 p] w fun e w' => e = .returned (pageR (some x)) ∧ Below w.heap.size w w' := by
  have HC := Lib.hid hc
  have HX := Lib.hid hx
  have HG0 := Lib.hid hg
  have HZ32 := Lib.hid (zeros_length 32)
  clear hc hg hx
  unfold pageR
  go_enter Tryz.func27, Tryz.ntmps27
  go_upto_region 0 with fail
  refine wp_region_lit ?_
  refine alloc_g zero39 rfl ?_
  intro wa hA hb hl
  try simp only [Act.put, List.setIfInBounds_toArray, List.set_cons_succ, List.set_cons_zero]
  refine alloc_g zero39 rfl ?_
  intro wb hA2 hb2 hl2
  try simp only [Act.put, List.setIfInBounds_toArray, List.set_cons_succ, List.set_cons_zero]
  refine takeL (.bool false) rfl (by go_simp) ?_
  try simp only [Act.put, List.setIfInBounds_toArray, List.set_cons_succ, List.set_cons_zero]
  refine wpList_nil ?_
  have HBW := Lib.hid (hb.trans (hb2.mono hb.size))
  have H40 : Hid (Blk wb w.heap.size (u8s (zeros 32))) := Lib.hid (by simpa using hA.below hb2 hA.lt)
  have H50 : Hid (Blk wb wa.heap.size (u8s (zeros 32))) := Lib.hid (by simpa using hA2)
  have HG4 : Hid (w.heap.size ≤ w.heap.size) := Lib.hid (Nat.le_refl _)
  have HG5 : Hid (w.heap.size ≤ wa.heap.size) := Lib.hid hb.size
  have HN45 : Hid (w.heap.size ≠ wa.heap.size) := Lib.hid (Nat.ne_of_lt hl)
  clear hA hb hl hA2 hb2 hl2
  generalize wa.heap.size = g5 at *

  go_wp2_with fail
  refine (HC.out _ HBW.out).mono ?_
  rintro e w1 ⟨rfl, hb⟩
  have HB1 := Lib.hid (stay HBW.out hb)
  have H4 := Lib.hid (H40.out.below hb H40.out.lt)
  have H5 := Lib.hid (H50.out.below hb H50.out.lt)
  have HG := Lib.hid (HG0.out.below HB1.out HG0.out.lt)
  have HNG : Hid (¬ (g = w.heap.size ∨ g = g5)) := Lib.hid (by have := HG0.out.lt; have := HG4.out; have := HG5.out; omega)
  clear hb H40 H50 HBW
  go_wp2_with fail
  go_upto_region 4 with fail
  refine startH (fun wq => Only (fun k => k = w.heap.size ∨ k = g5) w1 wq) (by kernel_rfl) ?_
  refine takeH 0 (some 19) (.pointer (some ⟨g, 0, none⟩)) rfl rfl (by kernel_rfl) (by kernel_rfl) (by kernel_rfl) (fun _ _ _ h => h) rfl (fun wq hS => by go_simp) (Only.refl _ _).drew ?_
  try simp only [Act.put, List.setIfInBounds_toArray, List.set_cons_succ, List.set_cons_zero]
  refine takeH 1 (some 20) (.pointer (some ⟨g, 0, none⟩)) rfl rfl (by kernel_rfl) (by kernel_rfl) (by kernel_rfl) (fun _ _ _ h => h) rfl (fun wq hS => by go_simp) (Only.refl _ _).drew ?_
  try simp only [Act.put, List.setIfInBounds_toArray, List.set_cons_succ, List.set_cons_zero]
  refine takeH 2 (some 21) (.pointer (some ⟨g, 1, none⟩)) rfl rfl (by kernel_rfl) (by kernel_rfl) (by kernel_rfl) (fun _ _ _ h => h) rfl (fun wq hS => by go_simp) (Only.refl _ _).drew ?_
  try simp only [Act.put, List.setIfInBounds_toArray, List.set_cons_succ, List.set_cons_zero]
  refine takeH 3 (some 22) (.agg (u8s x.base).toArray) rfl rfl (by kernel_rfl) (by kernel_rfl) (by kernel_rfl) (fun _ _ _ h => h) rfl (fun wq hS => by exact exec_load_at wq _ _ 39 _ rfl (g) (1) rfl ((u8s x.base).toArray) _ Tryz.underlying39 rfl (by rw [u8s_size, HX.out.base.length]; exact info39) (encH_base HX.out (HG.out.only hS HNG.out))) (Only.refl _ _).drew ?_
  try simp only [Act.put, List.setIfInBounds_toArray, List.set_cons_succ, List.set_cons_zero]
  refine takeH 4 (some 23) (.pointer (some ⟨g, 0, none⟩)) rfl rfl (by kernel_rfl) (by kernel_rfl) (by kernel_rfl) (fun _ _ _ h => h) rfl (fun wq hS => by go_simp) (Only.refl _ _).drew ?_
  try simp only [Act.put, List.setIfInBounds_toArray, List.set_cons_succ, List.set_cons_zero]
  refine takeH 5 (some 24) (.pointer (some ⟨g, 0, none⟩)) rfl rfl (by kernel_rfl) (by kernel_rfl) (by kernel_rfl) (fun _ _ _ h => h) rfl (fun wq hS => by go_simp) (Only.refl _ _).drew ?_
  try simp only [Act.put, List.setIfInBounds_toArray, List.set_cons_succ, List.set_cons_zero]
  refine takeH 6 (some 25) (.pointer (some ⟨g, 33, none⟩)) rfl rfl (by kernel_rfl) (by kernel_rfl) (by kernel_rfl) (fun _ _ _ h => h) rfl (fun wq hS => by go_simp) (Only.refl _ _).drew ?_
  try simp only [Act.put, List.setIfInBounds_toArray, List.set_cons_succ, List.set_cons_zero]
  refine takeH 7 (some 26) (.agg (u8s x.now).toArray) rfl rfl (by kernel_rfl) (by kernel_rfl) (by kernel_rfl) (fun _ _ _ h => h) rfl (fun wq hS => by exact exec_load_at wq _ _ 39 _ rfl (g) (33) rfl ((u8s x.now).toArray) _ Tryz.underlying39 rfl (by rw [u8s_size, HX.out.now.length]; exact info39) (encH_now HX.out (HG.out.only hS HNG.out))) (Only.refl _ _).drew ?_
  try simp only [Act.put, List.setIfInBounds_toArray, List.set_cons_succ, List.set_cons_zero]
  refine oneH 8 (by kernel_rfl) rfl rfl fun K hK => ?_
  refine store_W none rfl rfl (H4.out.drew) (by simp only [u8s_size, List.size_toArray, List.length_map, HX.out.base.length, HZ32.out]) (by rw [u8s_size, HX.out.base.length]; exact info39) (u8s_one _) rfl rfl fun y1 hD hO => ?_
  have HS1 : Hid (Only (fun k => k = w.heap.size ∨ k = g5) w1 y1) := Lib.hid (((Only.refl _ _).drew).trans (hO.more fun k _ hk => .inl hk))
  have D1 := Lib.hid hD
  have E1 := Lib.hid ((H5.out.drew).only hO HN45.out.symm)
  clear hD hO
  refine hK _ _ HS1.out ?_
  clear hK K
  try simp only [Act.put, List.setIfInBounds_toArray, List.set_cons_succ, List.set_cons_zero]
  refine oneH 9 (by kernel_rfl) rfl rfl fun K hK => ?_
  refine store_W none rfl rfl E1.out (by simp only [u8s_size, List.size_toArray, List.length_map, HX.out.now.length, HZ32.out]) (by rw [u8s_size, HX.out.now.length]; exact info39) (u8s_one _) rfl rfl fun y2 hD hO => ?_
  have HS2 : Hid (Only (fun k => k = w.heap.size ∨ k = g5) w1 y2) := Lib.hid ((HS1.out).trans (hO.more fun k _ hk => .inr hk))
  have D2 := Lib.hid hD
  have E2 := Lib.hid (D1.out.only hO HN45.out)
  clear hD hO
  refine hK _ _ HS2.out ?_
  clear hK K
  try simp only [Act.put, List.setIfInBounds_toArray, List.set_cons_succ, List.set_cons_zero]
  refine takeH 10 (some 6) (.bool true) rfl rfl (by kernel_rfl) (by kernel_rfl) (by kernel_rfl) (fun _ _ _ h => h) rfl (fun wq hS => by go_simp) HS2.out ?_
  try simp only [Act.put, List.setIfInBounds_toArray, List.set_cons_succ, List.set_cons_zero]
  refine wpAnyH_done (by kernel_rfl) ?_ _
  go_wp2_with fail
  exact bodyPost_ret (v := .tuple #[.agg (u8s x.base).toArray, .agg (u8s x.now).toArray, .bool true]) (results_cct rfl _ _ w.heap.size g5 _ _ _ _ rfl rfl rfl Tryz.underlying39 rfl (by rw [u8s_size, HX.out.base.length]; exact info39) (by rw [u8s_size, HX.out.now.length]; exact info39) (Blk.all E2.out rfl) (Blk.all D2.out rfl)) rfl ⟨rfl, HB1.out.trans (HS2.out.below HB1.out.size (fun k hk => hk.elim (fun e => by rw [e]; exact HG4.out) fun e => by rw [e]; exact HG5.out))⟩
theorem Fs.held_none {s : Fs} {p : Int} (h : s.page p = none) : s.held p = none := by unfold Fs.held; rw [h]; rfl
theorem Page_any {B : Nat} {w : World} {L : Lay} {ps : List (Option Nat)} {s : Fs} (h : FAt w L ps s) (ho : s.Ok B) (p : Int) : Calls Tryz.prog 27 #[.pointer (some ⟨L.b, 0, none⟩), .int .i64 p] w fun e w' => e = .returned (pageR (s.held p)) ∧ Below w.heap.size w w' := by
  have hc := fun (w' : World) (hb : Below w.heap.size w w') => pageF_any (h.below hb) ho p
  cases e : s.page p with
  | none =>
    rw [e] at hc
    rw [Fs.held_none e]
    exact Page_no _ p w hc
  | some k =>
    rw [e] at hc
    obtain ⟨h0, h1, h2, f, x, hf, hx, ef, hxo⟩ := Fs.page_at ho e
    obtain ⟨g, hg, hb⟩ := h.yes k f x hf hx (by omega)
    simp only [findP, inn_nat hg, pv] at hc
    rw [show s.held p = some x by unfold Fs.held; rw [e]; exact hx]
    exact Page_yes _ p _ hxo w hb hc
theorem Page_nil (p : Int) (w : World) : Calls Tryz.prog 27 #[.pointer none, .int .i64 p] w fun e w' => e = .returned (pageR none) ∧ Below w.heap.size w w' := Page_no _ p w fun w' _ => pageF_nil w' p
set_option maxRecDepth 100000 in
theorem Map_no (v : Value) (id : Int) (w : World) (hc : ∀ w', Below w.heap.size w w' → Calls Tryz.prog 52 #[v, .int .i64 (mapKey id)] w' fun e w'' => e = .returned (.tuple #[.int .i64 0, .pointer none]) ∧ Below w'.heap.size w' w'') : Calls Tryz.prog 29 #[v, .int .i64 id] w fun e w' => e = .returned (mapR none) ∧ Below w.heap.size w w' := by
  have HC := Lib.hid hc
  have HM := Lib.hid (mapKey_any id)
  clear hc
  unfold mapR
  generalize mapKey id = m at *
  go_enter Tryz.func29, Tryz.ntmps29
  go_upto_region 0 with fail
  refine wp_region_lit ?_
  refine alloc_g zero41 rfl ?_
  intro wa hA hb hl
  try simp only [Act.put, List.setIfInBounds_toArray, List.set_cons_succ, List.set_cons_zero]
  refine takeL (.bool false) rfl (by go_simp) ?_
  try simp only [Act.put, List.setIfInBounds_toArray, List.set_cons_succ, List.set_cons_zero]
  refine wpList_nil ?_
  have HBW := Lib.hid hb
  have H40 : Hid (Blk wa w.heap.size (i64s (zeros 8))) := Lib.hid (by simpa using hA)
  clear hA hb hl
  go_wp2_with fail
  refine (HM.out _).mono ?_
  rintro e w' ⟨rfl, rfl⟩
  go_wp2_with fail
  refine (HC.out _ HBW.out).mono ?_
  rintro e w1 ⟨rfl, hb⟩
  have HB1 := Lib.hid (stay HBW.out hb)
  have H4 := Lib.hid (H40.out.below hb H40.out.lt)
  clear hb H40 HBW
  go_upto_region 3 with fail
  refine wp_region_lit ?_
  refine build_g (build41 _) rfl ?_
  try simp only [Act.put, List.setIfInBounds_toArray, List.set_cons_succ, List.set_cons_zero]
  refine store_all (cs := (i64s (zeros 8)).toArray) H4.out (by simp) (by simp only [List.size_toArray, List.length_map]; exact info41) (i64s_one _) rfl rfl rfl ?_
  intro w2 hD hO hlD
  try simp only [Act.put, List.setIfInBounds_toArray, List.set_cons_succ, List.set_cons_zero]
  refine takeL (.bool false) rfl (by go_simp) ?_
  try simp only [Act.put, List.setIfInBounds_toArray, List.set_cons_succ, List.set_cons_zero]
  refine wpList_nil ?_
  go_wp2_with fail
  exact bodyPost_ret (v := .tuple #[.agg (i64s (zeros 8)).toArray, .bool false]) (results_cell_tmp rfl _ _ w.heap.size 0 _ _ _ rfl rfl Tryz.underlying41 rfl (by simp only [List.size_toArray, List.length_map]; exact info41) (Blk.all hD rfl)) rfl ⟨rfl, HB1.out.trans (hO.below HB1.out.size (fun k hk => by rw [hk]; exact Nat.le_refl _))⟩
set_option maxRecDepth 100000 in
theorem Map_yes {g : Nat} {key : Int} {x : Hd} (v : Value) (id : Int) (k : Value) (hx : x.Ok) (w : World) (hg : Blk w g (encH key x)) (hc : ∀ w', Below w.heap.size w w' → Calls Tryz.prog 52 #[v, .int .i64 (mapKey id)] w' fun e w'' => e = .returned (.tuple #[k, .pointer (some ⟨g, 0, none⟩)]) ∧ Below w'.heap.size w' w'') : Calls Tryz.prog 29 #[v, .int .i64 id] w fun e w' => e = .returned (mapR (some x)) ∧ Below w.heap.size w w' := by
  have HC := Lib.hid hc
  have HM := Lib.hid (mapKey_any id)
  have HX := Lib.hid hx
  have HG0 := Lib.hid hg
  clear hc hg hx
  unfold mapR
  generalize mapKey id = m at *
  go_enter Tryz.func29, Tryz.ntmps29
  go_upto_region 0 with fail
  refine wp_region_lit ?_
  refine alloc_g zero41 rfl ?_
  intro wa hA hb hl
  try simp only [Act.put, List.setIfInBounds_toArray, List.set_cons_succ, List.set_cons_zero]
  refine takeL (.bool false) rfl (by go_simp) ?_
  try simp only [Act.put, List.setIfInBounds_toArray, List.set_cons_succ, List.set_cons_zero]
  refine wpList_nil ?_
  have HBW := Lib.hid hb
  have H40 : Hid (Blk wa w.heap.size (i64s (zeros 8))) := Lib.hid (by simpa using hA)
  clear hA hb hl
  go_wp2_with fail
  refine (HM.out _).mono ?_
  rintro e w' ⟨rfl, rfl⟩
  go_wp2_with fail
  refine (HC.out _ HBW.out).mono ?_
  rintro e w1 ⟨rfl, hb⟩
  have HB1 := Lib.hid (stay HBW.out hb)
  have H4 := Lib.hid (H40.out.below hb H40.out.lt)
  have HG := Lib.hid (HG0.out.below HB1.out HG0.out.lt)
  clear hb H40 HBW
  go_upto_region 4 with fail
  refine wp_region_lit ?_
  refine takeL (.pointer (some ⟨g, 0, none⟩)) rfl (by go_simp) ?_
  try simp only [Act.put, List.setIfInBounds_toArray, List.set_cons_succ, List.set_cons_zero]
  refine takeL (.pointer (some ⟨g, 0, none⟩)) rfl (by go_simp) ?_
  try simp only [Act.put, List.setIfInBounds_toArray, List.set_cons_succ, List.set_cons_zero]
  refine takeL (.pointer (some ⟨g, 65, none⟩)) rfl (by go_simp) ?_
  try simp only [Act.put, List.setIfInBounds_toArray, List.set_cons_succ, List.set_cons_zero]
  refine load41 (cs := (i64s x.heads).toArray) (encH_heads HX.out HG.out) (by simp [HX.out.heads]) rfl rfl ?_
  try simp only [Act.put, List.setIfInBounds_toArray, List.set_cons_succ, List.set_cons_zero]
  refine store_all (cs := (i64s x.heads).toArray) H4.out (by simp [HX.out.heads, zeros]) (by simp only [List.size_toArray, List.length_map, HX.out.heads]; exact info41) (i64s_one _) rfl rfl rfl ?_
  intro w2 hD hO hlD
  try simp only [Act.put, List.setIfInBounds_toArray, List.set_cons_succ, List.set_cons_zero]
  refine takeL (.bool true) rfl (by go_simp) ?_
  try simp only [Act.put, List.setIfInBounds_toArray, List.set_cons_succ, List.set_cons_zero]
  refine wpList_nil ?_
  go_wp2_with fail
  exact bodyPost_ret (v := .tuple #[.agg (i64s x.heads).toArray, .bool true]) (results_cell_tmp rfl _ _ w.heap.size 0 _ _ _ rfl rfl Tryz.underlying41 rfl (by simp only [List.size_toArray, List.length_map, HX.out.heads]; exact info41) (Blk.all hD rfl)) rfl ⟨rfl, HB1.out.trans (hO.below HB1.out.size (fun k hk => by rw [hk]; exact Nat.le_refl _))⟩
theorem Map_any {B : Nat} {w : World} {L : Lay} {ps : List (Option Nat)} {s : Fs} (h : FAt w L ps s) (ho : s.Ok B) (id : Int) (hid : Kl.Small id) : Calls Tryz.prog 29 #[.pointer (some ⟨L.b, 0, none⟩), .int .i64 id] w fun e w' => e = .returned (mapR (s.heldMap id)) ∧ Below w.heap.size w w' := by
  have hc := fun (w' : World) (hb : Below w.heap.size w w') => findF_any (h.below hb) ho (mapKey id)
  unfold Fs.heldMap
  by_cases hd : 0 ≤ id ∧ id < 8
  · rw [if_pos hd]
    cases e : s.c.find (64 + id) with
    | none =>
      refine Map_no _ id w fun w' hb => ?_
      have := hc w' hb
      rwa [mapKey_in hd.1 hd.2, e, ← mapKey_in hd.1 hd.2] at this
    | some k =>
      obtain ⟨f, hf, ef, h0, _⟩ := find_at ho.ck e
      obtain ⟨_, x, _, hx⟩ := ho.at (k := k) (find_lt ho.ck e)
      obtain ⟨g, hg, hb⟩ := h.yes k f x hf hx (by omega)
      simp only [Option.bind_some, hx]
      refine Map_yes _ id (.int .i64 k) (ho.hd k x hx) w hb fun w' hb => ?_
      have := hc w' hb
      rw [mapKey_in hd.1 hd.2, e, ← mapKey_in hd.1 hd.2] at this
      simpa only [findP, inn_nat hg, pv] using this
  · rw [if_neg hd]
    refine Map_no _ id w fun w' hb => ?_
    have := hc w' hb
    rwa [find_out ho (mapKey_out hid (by omega))] at this
theorem Map_nil (id : Int) (w : World) : Calls Tryz.prog 29 #[.pointer none, .int .i64 id] w fun e w' => e = .returned (mapR none) ∧ Below w.heap.size w w' := Map_no _ id w fun w' _ => findF_nil w' _

end Go.Proofs.YtaemjglblfencaaGreatDoor
