/- Package journal: Good, copyOf, problem, New, At, SetFree, SetSeq. -/
import Derived.Test.YthlnmdihdcfphaaGreatDoorJa
import Derived.Test.YthlnmdihdcfphaaGreatDoorMc
import Derived.Test.YthlnmdihdcfphaaGreatDoorMj
namespace Go.Proofs.YthlnmdihdcfphaaGreatDoor
set_option linter.unusedSimpArgs false
set_option linter.unusedVariables false
open Go.RowKit

theorem two_box (w : World) (x y : Array Value) (s t : TypeId) (wr : World) (hb : Below (w.heap.size + 2) ((w.alloc (.cells x s)).alloc (.cells y t)) wr) : Below w.heap.size w wr ∧ Blk wr w.heap.size x.toList ∧ Blk wr (w.heap.size + 1) y.toList := by
  have h1 := Blk.new w x s
  have h2 := Blk.new (w.alloc (.cells x s)) y t
  have e : (w.alloc (.cells x s)).heap.size = w.heap.size + 1 := by simp
  rw [e] at h2
  exact ⟨(((Below.refl w.heap.size w).alloc (Nat.le_refl _) _).alloc (by simp) _).trans (hb.mono (by omega)), (h1.alloc _).below hb (by omega), h2.below hb (by omega)⟩
theorem plan_good (g : Pl.Gm) (w : World) : Calls Tryz.prog 53 #[g.v] w fun e w' => e = .returned (.bool (decide g.Ok)) ∧ Below w.heap.size w w' := by
  by_cases h : g.Ok
  · rw [decide_eq_true h]; exact Pl.good_yes g h w
  · rw [decide_eq_false h]; exact Pl.good_no g h w
theorem info40 : (Tryz.prog.info? 40).map (·.size) = some 4 := by kernel_rfl
theorem at_one (x y z : Int) (a : Option Addr) (n c : Nat) : ∀ v ∈ (#[.int .i64 x, .int .i64 y, .int .u32 z, .slice a n c] : Array Value), v.oneCell' = true := fun v hv => by
  simp only [List.mem_toArray, List.mem_cons, List.not_mem_nil, or_false] at hv
  rcases hv with rfl | rfl | rfl | rfl <;> rfl
theorem two_size (w : World) (x y : Array Value) (s t : TypeId) : ((w.alloc (.cells x s)).alloc (.cells y t)).heap.size = w.heap.size + 2 := by simp
set_option maxRecDepth 100000 in
set_option maxHeartbeats 1000000 in
theorem jgood_any (g : Pl.Gm) (a : Ja) (fv : Value) (n : Nat) (hn : a.free.length = n) (hbig : n ≤ 9223372036854775807) (w : World) (h : IntsAt w fv a.free) : Calls Tryz.prog 36 #[g.v, .agg #[.int .i64 a.seg, .int .i64 a.off, .int .u32 a.seq, fv]] w fun e w' => e = .returned (.bool (a.good g)) ∧ Below w.heap.size w w' := by
  obtain ⟨fa, fc, hfv⟩ := h.form
  rw [hn] at hfv
  subst hfv
  have HMF := Lib.hid fun w h => mayBeFree_any g a (.slice fa n fc) n hn hbig w h
  have HFR := Lib.hid h
  have HIS := Lib.hid fun (x : Int) w => isSeg_any g x w
  have HPG := Lib.hid fun w => plan_good g w
  have HG : Hid (a.good g = (decide g.Ok && isSeg g a.seg && decide (0 ≤ a.off) && decide (a.off ≤ g.l) && freeOk g a.seg a.free)) := Lib.hid rfl
  obtain ⟨seg, off, seq, l⟩ := a
  obtain ⟨go, hgo⟩ : ∃ v, decide g.Ok = v := ⟨_, rfl⟩
  rw [hgo] at HPG HG
  clear hgo
  obtain ⟨p, s, sl, f⟩ := g
  simp only at HMF HFR HG ⊢
  have HG1 := Lib.hid fun wr hb => two_box w #[.int .i64 p, .int .i64 s, .int .i64 sl, .int .i64 f] #[.int .i64 seg, .int .i64 off, .int .u32 seq, .slice fa n fc] 23 40 wr hb
  have HS2 := Lib.hid (two_size w #[.int .i64 p, .int .i64 s, .int .i64 sl, .int .i64 f] #[.int .i64 seg, .int .i64 off, .int .u32 seq, .slice fa n fc] 23 40)
  clear hn hbig h
  go_enter Tryz.func36, Tryz.ntmps36
  go_wp2_with fail
  refine (HPG.out _).mono ?_
  generalize (w.alloc (.cells #[.int .i64 p, .int .i64 s, .int .i64 sl, .int .i64 f] 23)).alloc (.cells #[.int .i64 seg, .int .i64 off, .int .u32 seq, .slice fa n fc] 40) = w2 at *
  rintro e w3 ⟨rfl, hb⟩
  have HB3 : Hid (Below (w.heap.size + 2) w2 w3) := Lib.hid (hb.mono (by rw [HS2.out]; exact Nat.le_refl _))
  clear hb HPG
  obtain ⟨hB, hg0, ha0⟩ := HG1.out w3 HB3.out
  have HB := Lib.hid hB
  cases go
  · have HX : Hid (Ja.good ⟨p, s, sl, f⟩ ⟨seg, off, seq, l⟩ = false) := Lib.hid (by rw [HG.out]; rfl)
    clear hB hg0 ha0
    go_wp2_with fail
    go_ret
    exact ⟨ret_bool HX.out.symm, HB.out⟩
  simp only [Bool.true_and] at HG
  have g0 := hg0.cell (i := 0) rfl
  have g1 := hg0.cell (i := 1) rfl
  have g2 := hg0.cell (i := 2) rfl
  have g3 := hg0.cell (i := 3) rfl
  have a0 := ha0.cell (i := 0) rfl
  clear hB hg0 ha0
  go_wp2_with fail
  refine (HIS.out seg _).mono ?_
  rintro e w4 ⟨rfl, hb⟩
  have HB4 : Hid (Below (w.heap.size + 2) w2 w4) := Lib.hid (HB3.out.trans (hb.mono (by have := HB3.out.size; have := HS2.out; omega)))
  clear hb HB3 HB HIS g0 g1 g2 g3 a0
  obtain ⟨hB, hg0, ha0⟩ := HG1.out w4 HB4.out
  have HB := Lib.hid hB
  cases hs : isSeg ⟨p, s, sl, f⟩ seg
  · have HX : Hid (Ja.good ⟨p, s, sl, f⟩ ⟨seg, off, seq, l⟩ = false) := Lib.hid (by rw [HG.out, hs]; rfl)
    clear hB hg0 ha0 hs
    go_wp2_with fail
    go_ret
    exact ⟨ret_bool HX.out.symm, HB.out⟩
  rw [hs] at HG
  simp only [Bool.true_and] at HG
  have g0 := hg0.cell (i := 0) rfl
  have g1 := hg0.cell (i := 1) rfl
  have g2 := hg0.cell (i := 2) rfl
  have g3 := hg0.cell (i := 3) rfl
  have a0 := ha0.cell (i := 0) rfl
  have a1 := ha0.cell (i := 1) rfl
  have a2 := ha0.cell (i := 2) rfl
  have a3 := ha0.cell (i := 3) rfl
  clear hB hg0 ha0 hs
  by_cases h0 : 0 ≤ off
  · by_cases h1 : off ≤ sl
    · have HX : Hid (Ja.good ⟨p, s, sl, f⟩ ⟨seg, off, seq, l⟩ = freeOk ⟨p, s, sl, f⟩ seg l) := Lib.hid (by rw [HG.out, decide_eq_true h0, decide_eq_true h1]; rfl)
      go_wp2_with fail
      refine (HMF.out _ (HFR.out.below HB.out)).mono ?_
      rintro e w5 ⟨rfl, hb⟩
      have HB5 := Lib.hid (stay HB.out hb)
      clear hb
      rw [← HX.out]
      go_wp2_with fail
      go_ret
      exact ⟨rfl, HB5.out⟩
    · have HX : Hid (Ja.good ⟨p, s, sl, f⟩ ⟨seg, off, seq, l⟩ = false) := Lib.hid (by rw [HG.out, decide_eq_false h1]; simp)
      go_wp2_with fail
      go_ret
      exact ⟨ret_bool HX.out.symm, HB.out⟩
  · have HX : Hid (Ja.good ⟨p, s, sl, f⟩ ⟨seg, off, seq, l⟩ = false) := Lib.hid (by rw [HG.out, decide_eq_false h0]; simp)
    go_wp2_with fail
    go_ret
    exact ⟨ret_bool HX.out.symm, HB.out⟩
set_option maxRecDepth 100000 in
theorem copyOf_any (a : Ja) (fv : Value) (hn : a.free.length ≤ 1000000) (w : World) (h : IntsAt w fv a.free) : Calls Tryz.prog 27 #[.agg #[.int .i64 a.seg, .int .i64 a.off, .int .u32 a.seq, fv]] w fun e w' => ∃ tv, e = .returned (.agg #[.int .i64 a.seg, .int .i64 a.off, .int .u32 a.seq, tv]) ∧ OwnN w' w.heap.size tv a.free ∧ Below w.heap.size w w' := by
  obtain ⟨fa, fc, hfv⟩ := h.form
  obtain ⟨n, hnn⟩ : ∃ n, a.free.length = n := ⟨_, rfl⟩
  rw [hnn] at hfv
  subst hfv
  have HCL := Lib.hid fun w h => clone_any a.free hn (.slice fa n fc) w h
  have HFR := Lib.hid h
  have HN := Lib.hid hnn
  obtain ⟨seg, off, seq, l⟩ := a
  simp only at HCL HFR HN hnn ⊢
  have HG1 := Lib.hid fun wr hb => two_box w #[.int .i64 seg, .int .i64 off, .int .u32 seq, .slice fa n fc] #[.int .i64 0, .int .i64 0, .int .u32 0, .slice none 0 0] 40 40 wr hb
  have HS2 := Lib.hid (two_size w #[.int .i64 seg, .int .i64 off, .int .u32 seq, .slice fa n fc] #[.int .i64 0, .int .i64 0, .int .u32 0, .slice none 0 0] 40 40)
  have HB2 : Hid (Below w.heap.size w ((w.alloc (.cells #[.int .i64 seg, .int .i64 off, .int .u32 seq, .slice fa n fc] 40)).alloc (.cells #[.int .i64 0, .int .i64 0, .int .u32 0, .slice none 0 0] 40))) := Lib.hid (((Below.refl w.heap.size w).alloc (Nat.le_refl _) _).alloc (by simp) _)
  clear hn hnn h
  go_enter Tryz.func27, Tryz.ntmps27
  go_wp2_with fail
  refine (HCL.out _ (HFR.out.below HB2.out)).mono ?_
  generalize (w.alloc (.cells #[.int .i64 seg, .int .i64 off, .int .u32 seq, .slice fa n fc] 40)).alloc (.cells #[.int .i64 0, .int .i64 0, .int .u32 0, .slice none 0 0] 40) = w2 at *
  rintro e w3 ⟨tv, rfl, ho, hb⟩
  have HO := Lib.hid ho
  obtain ⟨hB, hg0, ha0⟩ := HG1.out w3 (hb.mono (by rw [HS2.out]; exact Nat.le_refl _))
  have HB := Lib.hid hB
  have HV := Lib.hid hg0
  have HR := Lib.hid ha0
  obtain ⟨ta, tc, htv⟩ := ho.ints.form
  rw [HN.out] at htv
  subst htv
  clear ho hb hB hg0 ha0 HCL HG1
  have c3 := HV.out.cell (i := 3) rfl
  have f3 := HV.out.frozen 3
  have HV3 : Hid (Blk (w3.setCell ⟨w.heap.size, 3, none⟩ (.slice ta n tc)) w.heap.size [.int .i64 seg, .int .i64 off, .int .u32 seq, .slice ta n tc]) := Lib.hid (HV.out.set 3 (.slice ta n tc))
  have HR3 := Lib.hid (HR.out.setOther (a := ⟨w.heap.size, 3, none⟩) (by simp) (.slice ta n tc))
  have HO3 : Hid (OwnN (w3.setCell ⟨w.heap.size, 3, none⟩ (.slice ta n tc)) (w.heap.size + 2) (.slice ta n tc) l) := Lib.hid (ownsRow_setCell_below (by rw [HS2.out] at HO; exact HO.out) (by simp) (.slice ta n tc))
  have HB3 := Lib.hid (set_bel (i := 3) (v := .slice ta n tc) HB.out (Nat.le_refl w.heap.size) (Nat.le_refl _))
  go_upto_region 2 with fail
  generalize w3.setCell ⟨w.heap.size, 3, none⟩ (.slice ta n tc) = w4 at *
  clear c3 f3
  refine wp_region_lit ?_
  refine takeL (.agg #[.int .i64 seg, .int .i64 off, .int .u32 seq, .slice ta n tc]) rfl (by have c0 := HV3.out.cell (i := 0) rfl; have c1 := HV3.out.cell (i := 1) rfl; have c2 := HV3.out.cell (i := 2) rfl; have c3 := HV3.out.cell (i := 3) rfl; go_simp) ?_
  try simp only [Act.put, List.setIfInBounds_toArray, List.set_cons_succ, List.set_cons_zero]
  refine store_all (cs := #[.int .i64 seg, .int .i64 off, .int .u32 seq, .slice ta n tc]) HR3.out rfl info40 (at_one _ _ _ _ _ _) rfl rfl rfl ?_
  intro w5 hD hO hlD
  try simp only [Act.put, List.setIfInBounds_toArray, List.set_cons_succ, List.set_cons_zero]
  have HO5 := Lib.hid (OwnN.onlyN HO3.out hO (by omega))
  have HB5 := Lib.hid (HB3.out.trans (hO.below HB3.out.size fun k hk => by omega))
  have HD := Lib.hid hD
  clear hD hO hlD
  refine wpList_nil ?_
  go_wp2_with fail
  refine bodyPost_ret (v := .agg #[.int .i64 seg, .int .i64 off, .int .u32 seq, .slice ta n tc]) (results_cell_at rfl _ _ (w.heap.size + 1) 0 _ _ rfl Tryz.underlying40 rfl info40 (HD.out.all rfl)) rfl ⟨_, rfl, HO5.out.mono (by omega), HB5.out⟩
theorem OwnN.cp {w : World} {B : Nat} {sv : Value} {l : List Int} (h : OwnN w B sv l) : ∀ q n c, sv = .slice q n c → n ≤ c := fun q n c e => by
  rcases h.2 with ⟨e2, h0⟩ | ⟨g, cap, cur, e2, _, _, hn, _⟩
  · rw [e] at e2
    cases e2
    omega
  · rw [e] at e2
    cases e2
    exact hn
/-- A journal in memory: its struct in block jb, its device, its list of free segments. -/
structure Jn (W w : World) (jb b : Nat) (F : Nat → Prop) (d : De.D) (g : Pl.Gm) (a : Ja) (fv : Value) : Prop where
  dv : De.Dv W w b F d
  blk : Blk w jb [.pointer (some ⟨b, 0, none⟩), .int .i64 g.p, .int .i64 g.s, .int .i64 g.l, .int .i64 g.f, .int .i64 a.seg, .int .i64 a.off, .int .u32 a.seq, fv]
  fr : IntsAt w fv a.free
  lo : W.heap.size ≤ jb
  nF : ¬ F jb
  sep : ∀ b' o n c, fv = .slice (some ⟨b', o, none⟩) n c → W.heap.size ≤ b' ∧ b' ≠ jb ∧ ¬ F b' ∧ b' < w.heap.size
  good : a.good g = true
  seq : Seq32 a.seq
  total : 4 + g.s * g.l ≤ (d.S.length : Int)
  cp : ∀ q n c, fv = .slice q n c → n ≤ c
theorem Jn.below {W w w' : World} {jb b : Nat} {F : Nat → Prop} {d : De.D} {g : Pl.Gm} {a : Ja} {fv : Value} (h : Jn W w jb b F d g a fv) (hb : Below w.heap.size w w') : Jn W w' jb b F d g a fv :=
  ⟨h.dv.below hb, h.blk.below hb h.blk.lt, h.fr.below hb, h.lo, h.nF, fun b' o n c e => let ⟨h1, h2, h3, h4⟩ := h.sep b' o n c e; ⟨h1, h2, h3, Nat.lt_of_lt_of_le h4 hb.size⟩, h.good, h.seq, h.total, h.cp⟩
/-- Behind a call that turns the device alone. -/
theorem Jn.dev {W w w' : World} {jb b : Nat} {F F' : Nat → Prop} {d d' : De.D} {g : Pl.Gm} {a : Ja} {fv : Value} (h : Jn W w jb b F d g a fv) (hd : De.Dv W w' b F' d') (ho : Only F w w') (hn : ∀ k, F' k → F k ∨ w.heap.size ≤ k) (hl : d'.S.length = d.S.length) : Jn W w' jb b F' d' g a fv := by
  refine ⟨hd, h.blk.only ho h.nF, ?_, h.lo, fun hF => ?_, fun b' o n c e => ?_, h.good, h.seq, by rw [hl]; exact h.total, h.cp⟩
  · obtain ⟨fa, fc, e, hc⟩ := h.fr
    refine ⟨fa, fc, e, fun i x hx => ?_⟩
    obtain ⟨b', o', e2, hx2⟩ := hc i x hx
    refine ⟨b', o', e2, ?_⟩
    rw [← hx2]
    simp only [World.cell?, ho.block b' (block_lt_of_cell hx2) (h.sep b' o' _ _ (by rw [e, e2])).2.2.1]
  · rcases hn jb hF with h1 | h1
    · exact h.nF h1
    · have := h.blk.lt; omega
  · obtain ⟨h1, h2, h3, h4⟩ := h.sep b' o n c e
    refine ⟨h1, h2, fun hF => ?_, Nat.lt_of_lt_of_le h4 ho.size⟩
    rcases hn b' hF with h5 | h5
    · exact h3 h5
    · omega
theorem Ja.good_parts {g : Pl.Gm} {a : Ja} (h : a.good g = true) : g.Ok ∧ (0 ≤ a.seg ∧ a.seg < g.s) ∧ 0 ≤ a.off ∧ a.off ≤ g.l ∧ freeOk g a.seg a.free = true := by
  unfold Ja.good isSeg at h
  simp only [Bool.and_eq_true, decide_eq_true_eq] at h
  exact ⟨h.1.1.1.1, h.1.1.1.2, h.1.1.2, h.1.2, h.2⟩
theorem freeOk_rise {g : Pl.Gm} {seg : Int} {l : List Int} (h : freeOk g seg l = true) : ∀ i, i < l.length → (i : Int) ≤ l.getD i 0 := by
  intro i
  induction i with
  | zero =>
    intro hi
    have := freeOk_at h 0 hi
    unfold okAt isSeg at this
    simp only [Bool.and_eq_true, decide_eq_true_eq] at this
    exact this.1.1.1
  | succ i ih =>
    intro hi
    have h1 := ih (by omega)
    have := freeOk_at h (i + 1) hi
    unfold okAt at this
    simp only [Bool.and_eq_true, Bool.or_eq_true, decide_eq_true_eq] at this
    have h2 := this.2
    rw [show i + 1 - 1 = i from rfl] at h2
    rcases h2 with h2 | h2
    · omega
    · omega
theorem Ja.few {g : Pl.Gm} {a : Ja} (h : a.good g = true) : a.free.length ≤ 16 := by
  obtain ⟨hg, -, -, -, hf⟩ := Ja.good_parts h
  by_cases h0 : a.free.length = 0
  · omega
  have h1 := freeOk_rise hf (a.free.length - 1) (by omega)
  have h2 := freeOk_at hf (a.free.length - 1) (by omega)
  unfold okAt isSeg at h2
  simp only [Bool.and_eq_true, decide_eq_true_eq] at h2
  have h3 := h2.1.1.2
  have := hg.2.1.2
  omega
theorem plan_total (g : Pl.Gm) (h : g.Ok) (w : World) : Calls Tryz.prog 39 #[g.v] w fun e w' => e = .returned (.int .i64 (4 + g.s * g.l)) ∧ Below w.heap.size w w' := Pl.total_yes g h w
theorem nb_f {a : Bool} (h : false = !a) : a = true := by
  cases a
  · cases h
  · rfl
theorem nb_t {a : Bool} (h : true = !a) : a = false := by
  cases a
  · rfl
  · cases h
/-- Why there is no such journal. -/
def fits (g : Pl.Gm) (a : Ja) (m : Nat) : Bool := a.good g && decide (4 + g.s * g.l ≤ (m : Int))
set_option maxRecDepth 100000 in
set_option maxHeartbeats 1000000 in
theorem problem_any (dq : Option Addr) (m : Nat) (hm : m ≤ 1000000) (g : Pl.Gm) (a : Ja) (fv : Value) (hbig : a.free.length ≤ 9223372036854775807) (w : World) (h : IntsAt w fv a.free)
    (HL : ∀ w', Below w.heap.size w w' → Calls Tryz.prog 38 #[.pointer dq] w' fun e w'' => e = .returned (.int .i64 m) ∧ w' = w'') :
    Calls Tryz.prog 25 #[.pointer dq, g.v, .agg #[.int .i64 a.seg, .int .i64 a.off, .int .u32 a.seq, fv]] w fun e w' => ∃ v, e = .returned v ∧ Below w.heap.size w w' ∧ ((fits g a m = true ∧ v = .nilIface) ∨ (fits g a m = false ∧ Fault w' 1 v)) := by
  obtain ⟨fa, fc, hfv⟩ := h.form
  obtain ⟨n, hnn⟩ : ∃ n, a.free.length = n := ⟨_, rfl⟩
  rw [hnn] at hfv hbig
  subst hfv
  have HGD := Lib.hid fun w h => jgood_any g a (.slice fa n fc) n hnn hbig w h
  have HFR := Lib.hid h
  have HTT := Lib.hid fun (hg : g.Ok) w => plan_total g hg w
  have HLE := Lib.hid HL
  have HNF := Lib.hid fun s w => new_fault 1 rfl s w
  have HGP := Lib.hid (fun (h : a.good g = true) => Ja.good_parts h)
  have HFT : Hid (fits g a m = (a.good g && decide (4 + g.s * g.l ≤ (m : Int)))) := Lib.hid rfl
  have HAR : Hid (a.good g = true → 0 ≤ g.s * g.l ∧ g.s * g.l ≤ 512) := Lib.hid fun h => (Ja.good_parts h).1.area
  obtain ⟨ft, hft⟩ : ∃ v, fits g a m = v := ⟨_, rfl⟩
  rw [hft] at HFT ⊢
  obtain ⟨gd, hgd⟩ : ∃ v, a.good g = v := ⟨_, rfl⟩
  rw [hgd] at HGD HGP HFT HAR
  obtain ⟨ar, har⟩ : ∃ v, g.s * g.l = v := ⟨_, rfl⟩
  rw [har] at HTT HFT HAR
  obtain ⟨seg, off, seq, l⟩ := a
  obtain ⟨p, s, sl, f⟩ := g
  simp only at HGD HFR HGP HTT ⊢
  have HG1 := Lib.hid fun wr hb => two_box w #[.int .i64 p, .int .i64 s, .int .i64 sl, .int .i64 f] #[.int .i64 seg, .int .i64 off, .int .u32 seq, .slice fa n fc] 23 40 wr hb
  have HS2 := Lib.hid (two_size w #[.int .i64 p, .int .i64 s, .int .i64 sl, .int .i64 f] #[.int .i64 seg, .int .i64 off, .int .u32 seq, .slice fa n fc] 23 40)
  have HB2 : Hid (Below w.heap.size w ((w.alloc (.cells #[.int .i64 p, .int .i64 s, .int .i64 sl, .int .i64 f] 23)).alloc (.cells #[.int .i64 seg, .int .i64 off, .int .u32 seq, .slice fa n fc] 40))) := Lib.hid (((Below.refl w.heap.size w).alloc (Nat.le_refl _) _).alloc (by simp) _)
  clear hnn h hft hgd har HL hbig
  go_enter Tryz.func25, Tryz.ntmps25
  go_wp2_with fail
  refine (HGD.out _ (HFR.out.below HB2.out)).mono ?_
  generalize (w.alloc (.cells #[.int .i64 p, .int .i64 s, .int .i64 sl, .int .i64 f] 23)).alloc (.cells #[.int .i64 seg, .int .i64 off, .int .u32 seq, .slice fa n fc] 40) = w2 at *
  rintro e w3 ⟨rfl, hb⟩
  have HB3 : Hid (Below (w.heap.size + 2) w2 w3) := Lib.hid (hb.mono (by rw [HS2.out]; exact Nat.le_refl _))
  obtain ⟨hB, hg0, ha0⟩ := HG1.out w3 HB3.out
  have HB := Lib.hid hB
  have HV := Lib.hid hg0
  clear hb hB hg0 ha0 HG1 HB2 HS2 HB3 HGD
  cases gd
  · have HF : Hid (ft = false) := Lib.hid (by rw [HFT.out]; rfl)
    go_wp2_with fail
    refine (HNF.out _ _).mono ?_
    rintro e w4 ⟨v, rfl, hf, hb⟩
    have HF4 := Lib.hid hf
    have HB4 := Lib.hid (stay HB.out hb)
    obtain ⟨T, dd, hv⟩ := hf.shape
    subst hv
    clear hf hb
    go_wp2_with fail
    go_ret
    exact ⟨_, rfl, HB4.out, .inr ⟨HF.out, HF4.out⟩⟩
  obtain ⟨ar0, ar1⟩ := HAR.out rfl
  have hok := (HGP.out rfl).1
  have HOK := Lib.hid hok
  clear hok
  go_upto_region 3 with fail
  obtain ⟨nf, hnf⟩ : ∃ v, (!ft) = v := ⟨_, rfl⟩
  have HNT : Hid (nf = !ft) := Lib.hid hnf.symm
  clear hnf
  go_cut [13] from 14 to 18 (fun s13 wx => s13 = .bool nf ∧ Below w.heap.size w wx)
  case first =>
    refine startH (fun wq => Below w3.heap.size w3 wq) (by kernel_rfl) ?_
    have HSd : Hid (Below w3.heap.size w3 w3.drew) := Lib.hid (Below.refl _ _).drew
    refine takeH 0 (some 14) (.pointer dq) rfl rfl (by kernel_rfl) (by kernel_rfl) (by kernel_rfl) (fun _ _ _ h => h) rfl (fun wq hS => by go_simp) HSd.out ?_
    try simp only [Act.put, List.setIfInBounds_toArray, List.set_cons_succ, List.set_cons_zero]
    refine takeH 2 (some 16) (.agg #[.int .i64 p, .int .i64 s, .int .i64 sl, .int .i64 f]) rfl rfl (by kernel_rfl) (by kernel_rfl) (by kernel_rfl) (fun _ _ _ h => h) rfl (fun wq hS => by have q := HV.out.below hS HV.out.lt; have q0 := q.cell (i := 0) rfl; have q1 := q.cell (i := 1) rfl; have q2 := q.cell (i := 2) rfl; have q3 := q.cell (i := 3) rfl; go_simp) HSd.out ?_
    try simp only [Act.put, List.setIfInBounds_toArray, List.set_cons_succ, List.set_cons_zero]
    refine oneH 1 (by kernel_rfl) rfl rfl fun K hK => ?_
    go_simp
    refine (HLE.out _ (stay HB.out HSd.out)).mono ?_
    rintro e w4 ⟨rfl, rfl⟩
    refine hK _ _ HSd.out ?_
    clear hK K
    try simp only [Act.put, List.setIfInBounds_toArray, List.set_cons_succ, List.set_cons_zero]
    refine oneH 3 (by kernel_rfl) rfl rfl fun K hK => ?_
    go_simp
    refine (HTT.out HOK.out _).mono ?_
    rintro e w4 ⟨rfl, hb⟩
    have HS4 := Lib.hid (stay HSd.out hb)
    refine hK _ _ HS4.out ?_
    clear hK K hb
    try simp only [Act.put, List.setIfInBounds_toArray, List.set_cons_succ, List.set_cons_zero]
    refine takeH 4 (some 18) (.bool (decide ((m : Int) < 4 + ar))) rfl rfl (by kernel_rfl) (by kernel_rfl) (by kernel_rfl) (fun _ _ _ h => h) rfl (fun wq hS => by go_simp) HS4.out ?_
    try simp only [Act.put, List.setIfInBounds_toArray, List.set_cons_succ, List.set_cons_zero]
    refine takeH 5 (some 13) (.bool (decide ((m : Int) < 4 + ar))) rfl rfl (by kernel_rfl) (by kernel_rfl) (by kernel_rfl) (fun _ _ _ h => h) rfl (fun wq hS => by go_simp) HS4.out ?_
    try simp only [Act.put, List.setIfInBounds_toArray, List.set_cons_succ, List.set_cons_zero]
    refine wpAnyH_done (by kernel_rfl) ?_ _
    go_wp2_with fail
    go_meet
    exact ⟨by rw [HNT.out, HFT.out]; congr 1; rw [Bool.true_and, ← decide_not]; congr 1; apply propext; omega, stay HB.out HS4.out⟩
  case rest =>
    obtain ⟨rfl, hb⟩ := hcut
    have HB4 := Lib.hid hb
    clear hb
    cases nf
    · have HF : Hid (ft = true) := Lib.hid (nb_f HNT.out)
      go_wp2_with fail
      go_ret
      exact ⟨_, rfl, HB4.out, .inl ⟨HF.out, rfl⟩⟩
    · have HF : Hid (ft = false) := Lib.hid (nb_t HNT.out)
      go_wp2_with fail
      refine (HNF.out _ _).mono ?_
      rintro e w5 ⟨v, rfl, hf, hb⟩
      have HF5 := Lib.hid hf
      have HB5 := Lib.hid (stay HB4.out hb)
      obtain ⟨T, dd, hv⟩ := hf.shape
      subst hv
      clear hf hb
      go_wp2_with fail
      go_ret
      exact ⟨_, rfl, HB5.out, .inr ⟨HF.out, HF5.out⟩⟩

theorem built87 (b : Option Addr) (p s l f x y z : Int) (a : Option Addr) (n c : Nat) : Tryz.prog.built 87 [(0, .pointer b), (1, .agg #[.int .i64 p, .int .i64 s, .int .i64 l, .int .i64 f]), (2, .agg #[.int .i64 x, .int .i64 y, .int .u32 z, .slice a n c])] = some #[.pointer b, .int .i64 p, .int .i64 s, .int .i64 l, .int .i64 f, .int .i64 x, .int .i64 y, .int .u32 z, .slice a n c] := by kernel_rfl
end Go.Proofs.YthlnmdihdcfphaaGreatDoor
