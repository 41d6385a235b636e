/- The statements' first call. -/
import Derived.Test.YthlnmdihdcfphaaGreatDoorMi
import Derived.Test.YthlnmdihdcfphaaGreatDoorMg
namespace Go.Proofs.YthlnmdihdcfphaaGreatDoor
set_option linter.unusedSimpArgs false
set_option linter.unusedVariables false
open Go.RowKit

theorem zero23 : (Tryz.prog.info? 23).bind (·.zero) = some (.agg #[.int .i64 0, .int .i64 0, .int .i64 0, .int .i64 0]) := by kernel_rfl
theorem info23 : (Tryz.prog.info? 23).map (·.size) = some 4 := by kernel_rfl
theorem geo_one (x y z u : Int) : ∀ v ∈ (#[.int .i64 x, .int .i64 y, .int .i64 z, .int .i64 u] : Array Value), v.oneCell' = true := fun v hv => by
  simp only [List.mem_toArray, List.mem_cons, List.not_mem_nil, or_false] at hv
  rcases hv with rfl | rfl | rfl | rfl <;> rfl
theorem built40f (s o q : Int) (a : Option Addr) (n c : Nat) : Tryz.prog.built 40 [(0, .int .i64 s), (1, .int .i64 o), (2, .int .u32 q), (3, .slice a n c)] = some #[.int .i64 s, .int .i64 o, .int .u32 q, .slice a n c] := by kernel_rfl
def WL3 : List It := [imgI 4 8]
theorem WL3_may : mayBe WL3 = true := mayBe_iff.2 ⟨by decide, by decide, fun x hx => by
  obtain rfl := List.mem_singleton.1 hx
  exact imgI_ok (by decide), by decide⟩
theorem WL3_len (n : Int) : (lay2 n WL3).1.length = 2 := by rw [lay2_length]; decide
theorem WL3_at (n : Int) : (lay2 n WL3).2 = [1] := rfl
theorem wk_put3 {d : De.D} (hS : d.S.length = 200) (hF : d.F = -1) : (jput WG WA1 d WL3).e = 0 ∧ (jput WG WA1 d WL3).pl = [77] ∧ (jput WG WA1 d WL3).a = WA2 ∧ (jput WG WA1 d WL3).d.L = [] ∧ (jput WG WA1 d WL3).d.S.length = 200 := by
  have hp : partsN WL3 = 1 := by unfold partsN; rw [WL3_may]; rfl
  have hl : laid WG WA1 WL3 = true := by unfold laid; rw [WL3_may, WL3_len]; decide
  have hn : nextP WG WA1 (lay2 WA1.seq WL3).1.length = some ⟨3, 0, 6, [4]⟩ := by rw [WL3_len]; rfl
  obtain ⟨h1, h2, h3, h4, -, h6, -⟩ := jput_runs (d := d) WA1_good hl hn (by rw [hS]; decide) (.inl (by omega))
  rw [WL3_len] at h3
  rw [WL3_at] at h2
  rw [hp] at h3
  exact ⟨h1, h2, h3, h4, h6.trans hS⟩
theorem zero_nh (n : Int) : ∀ y : List Int, y = zeros 64 → NH n y := fun y hy => by rw [hy]; exact nh_zero n
theorem wk_sn : ∃ X, Sn (jput WG WA1 (jput WG WA0 (De.newD 200) WL1).d WL3).d X WG WA0 [(WL1, [51]), (WL3, [77])] WA2 (· = zeros 64) := by
  have h0 : Sn (De.newD 200) (List.replicate 200 (zeros 64)) WG WA0 [] WA0 (· = zeros 64) := Sn.new (img_new 200) WA0_good (seqN 5 (by decide)) (by rw [newD_len]; decide) fun y hy => List.eq_of_mem_replicate hy
  obtain ⟨p1, p2, p3, p4, p5, p6, p7⟩ := wk_put1
  obtain ⟨q1, q2, q3, q4, -⟩ := wk_put3 p6 p7
  obtain ⟨X1, h1, -⟩ := h0.put (zero_nh _) WL1 (fun x hx => by obtain rfl := List.mem_singleton.1 hx; exact imgI_wf (smallN 3 (by decide)) (byteN 7 (by decide))) p1
  rw [p2, p3] at h1
  obtain ⟨X2, h2, -⟩ := h1.put (zero_nh _) WL3 (fun x hx => by obtain rfl := List.mem_singleton.1 hx; exact imgI_wf (smallN 4 (by decide)) (byteN 8 (by decide))) q1
  rw [q2, q3] at h2
  exact ⟨X2, h2⟩
/-- What lies in memory while the first call goes on. -/
structure WK (w wx : World) (gB aB qB jb b : Nat) (F : Nat → Prop) (d : De.D) (a : Ja) (fv : Value) : Prop where
  jn : Jn w wx jb b F d WG a fv
  bel : Below w.heap.size w wx
  gb : Blk wx gB [.int .i64 16, .int .i64 8, .int .i64 24, .int .i64 4]
  ab : Blk wx aB [.int .i64 1, .int .i64 22, .int .u32 5, .slice (some ⟨qB, 0, none⟩) 2 2]
  fr : IntsAt wx (.slice (some ⟨qB, 0, none⟩) 2 2) [3, 4]
  sg : Safe wx F jb gB
  sa : Safe wx F jb aB
  sq : Safe wx F jb qB
theorem WK.below {w wx wy : World} {gB aB qB jb b : Nat} {F : Nat → Prop} {d : De.D} {a : Ja} {fv : Value} (h : WK w wx gB aB qB jb b F d a fv) (hb : Below wx.heap.size wx wy) : WK w wy gB aB qB jb b F d a fv :=
  ⟨h.jn.below hb, stay h.bel hb, h.gb.below hb h.gb.lt, h.ab.below hb h.ab.lt, h.fr.below hb, h.sg.below hb, h.sa.below hb, h.sq.below hb⟩
theorem WK.put {w wx wy : World} {gB aB qB jb b : Nat} {F F' : Nat → Prop} {d d' : De.D} {a a' : Ja} {fv fv' : Value} (h : WK w wx gB aB qB jb b F d a fv) (hj : Jn w wy jb b F' d' WG a' fv') (ho : Only (fun k => F k ∨ k = jb) wx wy) (hn : ∀ k, F' k → F k ∨ wx.heap.size ≤ k) : WK w wy gB aB qB jb b F' d' a' fv' :=
  ⟨hj, hj.dv.2, h.sg.blk ho h.gb, h.sa.blk ho h.ab, h.fr.onlyF ho fun b' o n c e hF => by
    injection e with e1 e2 e3
    injection e1 with e1
    injection e1 with e1 e4
    subst e1
    exact hF.elim h.sq.2.1 h.sq.2.2, h.sg.next ho hn, h.sa.next ho hn, h.sq.next ho hn⟩
section
variable {w : World}
set_option maxRecDepth 100000 in
set_option maxHeartbeats 4000000 in
theorem wakes_any (hv : Vars w) : Calls Tryz.prog 8 #[] w fun e w' => e = .returned (.bool true) ∧ Below w.heap.size w w' := by
  have HV := Lib.hid hv
  clear hv
  go_enter Tryz.func8, Tryz.ntmps8
  go_upto_region 1 with fail
  refine wp_region_lit ?_
  refine wpList_op rfl fun K hK => ?_
  go_simp
  refine (Pl.small_any _).mono ?_
  rintro e w1 ⟨rfl, hb⟩
  have HB1 := Lib.hid hb
  clear hb
  refine hK _ _ ?_
  clear hK K
  try simp only [Act.put, List.setIfInBounds_toArray, List.set_cons_succ, List.set_cons_zero]
  refine alloc_g zero23 rfl ?_
  intro w2 hG hb2 hl2
  try simp only [Act.put, List.setIfInBounds_toArray, List.set_cons_succ, List.set_cons_zero]
  refine store_all (cs := #[.int .i64 16, .int .i64 8, .int .i64 24, .int .i64 4]) hG rfl info23 (geo_one _ _ _ _) rfl rfl rfl ?_
  intro w3 hD hO hlD
  try simp only [Act.put, List.setIfInBounds_toArray, List.set_cons_succ, List.set_cons_zero]
  have HG3 := Lib.hid hD
  have HB3 : Hid (Below w.heap.size w w3) := Lib.hid (HB1.out.trans ((hb2.trans (hO.below hb2.size fun k hk => Nat.le_of_eq hk.symm)).mono HB1.out.size))
  have HGL : Hid (w1.heap.size < w3.heap.size) := Lib.hid (by omega)
  clear hG hb2 hl2 hD hO hlD HB1
  generalize w1.heap.size = gB at *
  refine wpList_nil ?_
  go_upto_region 2 with fail
  refine wp_region_lit ?_
  refine wpList_op rfl fun K hK => ?_
  go_simp
  refine (De.dv_new w w3 HB3.out 200 (by decide)).mono ?_
  rintro e w4 ⟨b, F, rfl, hdv, hb, hF⟩
  have HD4 := Lib.hid hdv
  have HG4 := Lib.hid (HG3.out.below hb HG3.out.lt)
  have HGF : Hid (¬ F gB ∧ gB < w4.heap.size) := Lib.hid ⟨fun hf => by have h1 := hF _ hf; have h2 := HGL.out; omega, by have h2 := HGL.out; have := hb.size; omega⟩
  clear hdv hb hF HG3 HB3 HGL
  refine hK _ _ ?_
  clear hK K
  try simp only [Act.put, List.setIfInBounds_toArray, List.set_cons_succ, List.set_cons_zero]
  refine takeL (.tuple #[.pointer (some ⟨b, 0, none⟩), .int .i64 0]) rfl (by go_simp) ?_
  try simp only [Act.put, List.setIfInBounds_toArray, List.set_cons_succ, List.set_cons_zero]
  refine takeL (.pointer (some ⟨b, 0, none⟩)) rfl (by go_simp) ?_
  try simp only [Act.put, List.setIfInBounds_toArray, List.set_cons_succ, List.set_cons_zero]
  refine takeL (.int .i64 0) rfl (by go_simp) ?_
  try simp only [Act.put, List.setIfInBounds_toArray, List.set_cons_succ, List.set_cons_zero]
  refine takeL (.pointer (some ⟨b, 0, none⟩)) rfl (by go_simp) ?_
  try simp only [Act.put, List.setIfInBounds_toArray, List.set_cons_succ, List.set_cons_zero]
  refine takeL (.int .i64 0) rfl (by go_simp) ?_
  try simp only [Act.put, List.setIfInBounds_toArray, List.set_cons_succ, List.set_cons_zero]
  refine wpList_nil ?_
  go_upto_region 3 with fail
  refine wp_region_lit ?_
  refine wpList_run (.slice (some ⟨w4.heap.size, 0, none⟩) 2 2) (w4.alloc (.cells #[.int .i64 3, .int .i64 4] 3)) rfl (by go_simp) ?_
  try simp only [Act.put, List.setIfInBounds_toArray, List.set_cons_succ, List.set_cons_zero]
  have hal := alloc_bel w4 (.cells #[.int .i64 3, .int .i64 4] 3)
  have HI5 : Hid (IntsAt (w4.alloc (.cells #[.int .i64 3, .int .i64 4] 3)) (.slice (some ⟨w4.heap.size, 0, none⟩) 2 2) [3, 4]) := Lib.hid (OwnN.lit w4 w4.heap.size (Nat.le_refl _) [3, 4] (by decide) _ rfl).ints
  have HD5 := Lib.hid (HD4.out.below hal)
  have HG5 := Lib.hid (HG4.out.below hal HG4.out.lt)
  have HQF : Hid (¬ F w4.heap.size ∧ gB < w4.heap.size ∧ w4.heap.size < (w4.alloc (.cells #[.int .i64 3, .int .i64 4] 3)).heap.size) := Lib.hid ⟨fun hf => by have := (HD4.out.lt _ hf).2; omega, HGF.out.2, by simp⟩
  clear hal HD4 HG4
  generalize w4.alloc (.cells #[.int .i64 3, .int .i64 4] 3) = w5 at *
  generalize w4.heap.size = qB at *
  refine takeL (.agg #[.int .i64 1, .int .i64 22, .int .u32 5, .slice (some ⟨qB, 0, none⟩) 2 2]) rfl (exec_build _ _ _ _ 40 _ rfl #[(0, .int .i64 1), (1, .int .i64 22), (2, .int .u32 5), (3, .slice (some ⟨qB, 0, none⟩) 2 2)] (by simp only [List.map_toArray, List.map_cons, List.map_nil]; rfl) _ (run_build w5 40 _ _ (built40f _ _ _ _ _ _))) ?_
  try simp only [Act.put, List.setIfInBounds_toArray, List.set_cons_succ, List.set_cons_zero]
  refine alloc_g zero40 rfl ?_
  intro w6 hA hb6 hl6
  try simp only [Act.put, List.setIfInBounds_toArray, List.set_cons_succ, List.set_cons_zero]
  refine store_all (cs := #[.int .i64 1, .int .i64 22, .int .u32 5, .slice (some ⟨qB, 0, none⟩) 2 2]) hA rfl info40 (at_one _ _ _ _ _ _) rfl rfl rfl ?_
  intro w7 hD hO hlD
  try simp only [Act.put, List.setIfInBounds_toArray, List.set_cons_succ, List.set_cons_zero]
  have hbb : Below w5.heap.size w5 w7 := hb6.trans (hO.below hb6.size fun k hk => Nat.le_of_eq hk.symm)
  have HA7 := Lib.hid hD
  have HD7 := Lib.hid (HD5.out.below hbb)
  have HG7 := Lib.hid (HG5.out.below hbb HG5.out.lt)
  have HI7 := Lib.hid (HI5.out.below hbb)
  have HAF : Hid (¬ F w5.heap.size ∧ w5.heap.size < w7.heap.size) := Lib.hid ⟨fun hf => by have := (HD5.out.lt _ hf).2; omega, by omega⟩
  clear hA hb6 hl6 hD hO hlD hbb HD5 HG5 HI5
  generalize w5.heap.size = aB at *
  refine wpList_nil ?_
  go_upto_region 4 with fail
  refine wp_region_lit ?_
  refine takeL (.pointer (some ⟨b, 0, none⟩)) rfl (by go_simp) ?_
  try simp only [Act.put, List.setIfInBounds_toArray, List.set_cons_succ, List.set_cons_zero]
  refine takeL (.agg #[.int .i64 16, .int .i64 8, .int .i64 24, .int .i64 4]) rfl (by have q := HG7.out; have q0 := q.cell (i := 0) rfl; have q1 := q.cell (i := 1) rfl; have q2 := q.cell (i := 2) rfl; have q3 := q.cell (i := 3) rfl; go_simp) ?_
  try simp only [Act.put, List.setIfInBounds_toArray, List.set_cons_succ, List.set_cons_zero]
  refine takeL (.agg #[.int .i64 1, .int .i64 22, .int .u32 5, .slice (some ⟨qB, 0, none⟩) 2 2]) rfl (by have q := HA7.out; have q0 := q.cell (i := 0) rfl; have q1 := q.cell (i := 1) rfl; have q2 := q.cell (i := 2) rfl; have q3 := q.cell (i := 3) rfl; go_simp) ?_
  try simp only [Act.put, List.setIfInBounds_toArray, List.set_cons_succ, List.set_cons_zero]
  refine wpList_op rfl fun K hK => ?_
  go_simp
  refine (new_yes (W := w) b F (De.newD 200) (by rw [newD_len]; decide) WG WA0 (.slice (some ⟨qB, 0, none⟩) 2 2) (by decide) (by rw [newD_len]; decide) (seqN 5 (by decide)) _ HI7.out HD7.out).mono ?_
  rintro e w8 ⟨jb, tv, rfl, hj, hjl, hb⟩
  have HK8 : Hid (WK w w8 gB aB qB jb b F (De.newD 200) WA0 tv) := Lib.hid (by
    have h1 := hb.size
    have h2 := HAF.out
    have h3 := HQF.out
    exact ⟨hj, hj.dv.2, HG7.out.below hb HG7.out.lt, HA7.out.below hb HA7.out.lt, HI7.out.below hb, ⟨by omega, HGF.out.1, by omega⟩, ⟨by omega, h2.1, by omega⟩, ⟨by omega, h3.1, by omega⟩⟩)
  clear hj hjl hb HG7 HA7 HI7 HD7 HGF HQF HAF
  refine hK _ _ ?_
  clear hK K
  try simp only [Act.put, List.setIfInBounds_toArray, List.set_cons_succ, List.set_cons_zero]
  refine takeL (.tuple #[.pointer (some ⟨jb, 0, none⟩), .int .i64 0]) rfl (by go_simp) ?_
  try simp only [Act.put, List.setIfInBounds_toArray, List.set_cons_succ, List.set_cons_zero]
  refine takeL (.pointer (some ⟨jb, 0, none⟩)) rfl (by go_simp) ?_
  try simp only [Act.put, List.setIfInBounds_toArray, List.set_cons_succ, List.set_cons_zero]
  refine takeL (.int .i64 0) rfl (by go_simp) ?_
  try simp only [Act.put, List.setIfInBounds_toArray, List.set_cons_succ, List.set_cons_zero]
  refine takeL (.pointer (some ⟨jb, 0, none⟩)) rfl (by go_simp) ?_
  try simp only [Act.put, List.setIfInBounds_toArray, List.set_cons_succ, List.set_cons_zero]
  refine takeL (.int .i64 0) rfl (by go_simp) ?_
  try simp only [Act.put, List.setIfInBounds_toArray, List.set_cons_succ, List.set_cons_zero]
  refine wpList_nil ?_
  go_upto_region 7 with fail
  refine wp_region_lit ?_
  refine takeL (.pointer (some ⟨jb, 0, none⟩)) rfl (by go_simp) ?_
  try simp only [Act.put, List.setIfInBounds_toArray, List.set_cons_succ, List.set_cons_zero]
  refine wpList_op rfl fun K hK => ?_
  go_simp
  refine (image_any 3 7 (smallN 3 (by decide)) (byteN 7 (by decide)) _).mono ?_
  rintro e w9 ⟨rfl, hb⟩
  have HK9 := Lib.hid (HK8.out.below hb)
  clear hb HK8
  refine hK _ _ ?_
  clear hK K
  try simp only [Act.put, List.setIfInBounds_toArray, List.set_cons_succ, List.set_cons_zero]
  have hw1 := imgI_wf (smallN 3 (by decide)) (byteN 7 (by decide))
  refine wpList_run _ _ rfl (exec_buildSlice _ _ _ _ 44 1 _ rfl #[(0, .agg ((imgI 3 7).arr nb))] (by simp only [List.map_toArray, List.map_cons, List.map_nil]; rfl) _ (lit1_run w9 hw1)) ?_
  try simp only [Act.put, List.setIfInBounds_toArray, List.set_cons_succ, List.set_cons_zero]
  have hit := lit_its w9 (l := [(imgI 3 7, nb)]) (fun x hx => by obtain rfl := List.mem_singleton.1 hx; exact ⟨hw1, rfl, rfl⟩) 1 rfl (by decide) (F := F) (fun k hk => (HK9.out.jn.dv.lt k hk).2)
  have HIT := Lib.hid hit
  have HKA := Lib.hid (HK9.out.below (alloc_bel w9 (.cells (itCells [(imgI 3 7, nb)]).toArray 75)))
  generalize w9.alloc (.cells (itCells [(imgI 3 7, nb)]).toArray 75) = wA at *
  generalize w9.heap.size = g9 at *
  clear hit hw1 HK9
  refine wpList_op rfl fun K hK => ?_
  go_simp
  refine (put_any HKA.out.jn HV.out [(imgI 3 7, nb)] WL1 rfl _ (by decide) HIT.out.1 HIT.out.2 (by rw [newD_len]; decide) (by decide) (by decide)).mono ?_
  rintro e wB ⟨pv, rfl, F1, fv1, ho, hj, hon, hn, hpa, -⟩
  obtain ⟨p1, p2, p3, p4, p5, p6, p7⟩ := wk_put1
  have HSN := Lib.hid wk_sn
  rw [p1]
  rw [p2] at ho
  rw [p3] at hj
  have HKB : Hid (WK w wB gB aB qB jb b F1 (jput WG WA0 (De.newD 200) WL1).d WA1 fv1) := Lib.hid (HKA.out.put hj hon hn)
  obtain ⟨pa, pc, hpv⟩ := ho.ints.form
  subst hpv
  clear ho hj hon hn hpa p1 p2 p3 HKA HIT
  generalize (jput WG WA0 (De.newD 200) WL1).d = d1 at *
  have HS1 := Lib.hid p6
  have HF1 := Lib.hid p7
  have HL1 : Hid (d1.L.length ≤ 800000 ∧ d1.T ≤ 800000 ∧ d1.S.length ≤ 1024) := Lib.hid (by rw [p4, p5, p6]; decide)
  clear p4 p5 p6 p7
  refine hK _ _ ?_
  clear hK K
  try simp only [Act.put, List.setIfInBounds_toArray, List.set_cons_succ, List.set_cons_zero]
  refine wpList_nil ?_
  go_upto_region 8 with fail
  refine wp_region_lit ?_
  refine takeL (.pointer (some ⟨jb, 0, none⟩)) rfl (by go_simp) ?_
  try simp only [Act.put, List.setIfInBounds_toArray, List.set_cons_succ, List.set_cons_zero]
  refine wpList_op rfl fun K hK => ?_
  go_simp
  refine (image_any 4 8 (smallN 4 (by decide)) (byteN 8 (by decide)) _).mono ?_
  rintro e wC ⟨rfl, hb⟩
  have HKC := Lib.hid (HKB.out.below hb)
  clear hb HKB
  refine hK _ _ ?_
  clear hK K
  try simp only [Act.put, List.setIfInBounds_toArray, List.set_cons_succ, List.set_cons_zero]
  have hw1 := imgI_wf (smallN 4 (by decide)) (byteN 8 (by decide))
  refine wpList_run _ _ rfl (exec_buildSlice _ _ _ _ 44 1 _ rfl #[(0, .agg ((imgI 4 8).arr nb))] (by simp only [List.map_toArray, List.map_cons, List.map_nil]; rfl) _ (lit1_run wC hw1)) ?_
  try simp only [Act.put, List.setIfInBounds_toArray, List.set_cons_succ, List.set_cons_zero]
  have hit := lit_its wC (l := [(imgI 4 8, nb)]) (fun x hx => by obtain rfl := List.mem_singleton.1 hx; exact ⟨hw1, rfl, rfl⟩) 1 rfl (by decide) (F := F1) (fun k hk => (HKC.out.jn.dv.lt k hk).2)
  have HIT := Lib.hid hit
  have HKD := Lib.hid (HKC.out.below (alloc_bel wC (.cells (itCells [(imgI 4 8, nb)]).toArray 75)))
  generalize wC.alloc (.cells (itCells [(imgI 4 8, nb)]).toArray 75) = wD at *
  generalize wC.heap.size = gC at *
  clear hit hw1 HKC
  refine wpList_op rfl fun K hK => ?_
  go_simp
  refine (put_any HKD.out.jn HV.out [(imgI 4 8, nb)] WL3 rfl _ (by decide) HIT.out.1 HIT.out.2 HL1.out.2.2 HL1.out.2.1 HL1.out.1).mono ?_
  rintro e wE ⟨pv, rfl, F2, fv2, ho, hj, hon, hn, hpa, -⟩
  obtain ⟨p1, p2, p3, p4, p5⟩ := wk_put3 HS1.out HF1.out
  rw [p1]
  rw [p2] at ho
  rw [p3] at hj
  have HKE : Hid (WK w wE gB aB qB jb b F2 (jput WG WA1 d1 WL3).d WA2 fv2) := Lib.hid (HKD.out.put hj hon hn)
  obtain ⟨qa, qc, hqv⟩ := ho.ints.form
  subst hqv
  clear ho hj hon hn hpa p1 p2 p3 HKD HIT HS1 HF1 HL1
  generalize (jput WG WA1 d1 WL3).d = d2 at *
  have HL2 := Lib.hid p4
  have HS2 := Lib.hid p5
  clear p4 p5
  refine hK _ _ ?_
  clear hK K
  try simp only [Act.put, List.setIfInBounds_toArray, List.set_cons_succ, List.set_cons_zero]
  refine wpList_nil ?_
  go_upto_region 9 with fail
  refine wp_region_lit ?_
  refine takeL (.pointer (some ⟨b, 0, none⟩)) rfl (by go_simp) ?_
  try simp only [Act.put, List.setIfInBounds_toArray, List.set_cons_succ, List.set_cons_zero]
  refine takeL (.agg #[.int .i64 16, .int .i64 8, .int .i64 24, .int .i64 4]) rfl (by have q := HKE.out.gb; have q0 := q.cell (i := 0) rfl; have q1 := q.cell (i := 1) rfl; have q2 := q.cell (i := 2) rfl; have q3 := q.cell (i := 3) rfl; go_simp) ?_
  try simp only [Act.put, List.setIfInBounds_toArray, List.set_cons_succ, List.set_cons_zero]
  refine takeL (.agg #[.int .i64 1, .int .i64 22, .int .u32 5, .slice (some ⟨qB, 0, none⟩) 2 2]) rfl (by have q := HKE.out.ab; have q0 := q.cell (i := 0) rfl; have q1 := q.cell (i := 1) rfl; have q2 := q.cell (i := 2) rfl; have q3 := q.cell (i := 3) rfl; go_simp) ?_
  try simp only [Act.put, List.setIfInBounds_toArray, List.set_cons_succ, List.set_cons_zero]
  obtain ⟨X, hsn⟩ := HSN.out
  have HX := Lib.hid hsn
  have HR1 : Hid (Calls Tryz.prog 16 #[.pointer (some ⟨b, 0, none⟩), WG.v, .agg #[.int .i64 1, .int .i64 22, .int .u32 5, .slice (some ⟨qB, 0, none⟩) 2 2]] wE fun e w' => ∃ la lc ta tc, e = .returned (.tuple #[.slice la 2 lc, .agg #[.int .i64 3, .int .i64 2, .int .u32 7, .slice ta 1 tc], .int .i64 0]) ∧ GsAt w' (.slice la 2 lc) [(WL1, [51]), (WL3, [77])] ∧ IntsAt w' (.slice ta 1 tc) [4] ∧ Below wE.heap.size wE w') := Lib.hid ((sread_yes (g := WG) (a := WA0) (fv := .slice (some ⟨qB, 0, none⟩) 2 2) HKE.out.jn.dv hsn.img (by have h1 := hsn.img.len; have h2 := HS2.out; omega) (by rw [HL2.out]; decide) (by rw [HS2.out]; decide) (seqN 5 (by decide)) HKE.out.fr).mono (by
    rintro e w' ⟨P, b1, lv, tv, hway, hend, rfl, hgs, htv, hb⟩
    obtain ⟨u1, u2⟩ := Way.uniq (hsn.read (zero_nh _)).1 (hsn.read (zero_nh _)).2 hway hend
    subst u1
    subst u2
    obtain ⟨la, lc, hlv⟩ := hgs.form
    subst hlv
    obtain ⟨ta, tc, htv2⟩ := htv.form
    subst htv2
    exact ⟨la, lc, ta, tc, rfl, hgs, htv, hb⟩))
  clear hsn HSN
  refine wpList_op rfl fun K hK => ?_
  go_simp
  refine (HR1.out).mono ?_
  rintro e wF ⟨la, lc, ta, tc, rfl, hgs, htv, hb⟩
  have HKF := Lib.hid (HKE.out.below hb)
  have HGSF := Lib.hid hgs
  have HTF := Lib.hid htv
  clear hgs htv hb HKE HR1
  refine hK _ _ ?_
  clear hK K
  try simp only [Act.put, List.setIfInBounds_toArray, List.set_cons_succ, List.set_cons_zero]
  refine takeL (.tuple #[.slice la 2 lc, .agg #[.int .i64 3, .int .i64 2, .int .u32 7, .slice ta 1 tc], .int .i64 0]) rfl (by go_simp) ?_
  try simp only [Act.put, List.setIfInBounds_toArray, List.set_cons_succ, List.set_cons_zero]
  refine takeL (.slice la 2 lc) rfl (by go_simp) ?_
  try simp only [Act.put, List.setIfInBounds_toArray, List.set_cons_succ, List.set_cons_zero]
  refine takeL (.agg #[.int .i64 3, .int .i64 2, .int .u32 7, .slice ta 1 tc]) rfl (by go_simp) ?_
  try simp only [Act.put, List.setIfInBounds_toArray, List.set_cons_succ, List.set_cons_zero]
  refine takeL (.int .i64 0) rfl (by go_simp) ?_
  try simp only [Act.put, List.setIfInBounds_toArray, List.set_cons_succ, List.set_cons_zero]
  refine alloc_g zero40 rfl ?_
  intro wG hA hb6 hl6
  try simp only [Act.put, List.setIfInBounds_toArray, List.set_cons_succ, List.set_cons_zero]
  refine takeL (.slice la 2 lc) rfl (by go_simp) ?_
  try simp only [Act.put, List.setIfInBounds_toArray, List.set_cons_succ, List.set_cons_zero]
  refine store_all (cs := #[.int .i64 3, .int .i64 2, .int .u32 7, .slice ta 1 tc]) hA rfl info40 (at_one _ _ _ _ _ _) rfl rfl rfl ?_
  intro wH hD hO hlD
  try simp only [Act.put, List.setIfInBounds_toArray, List.set_cons_succ, List.set_cons_zero]
  have hbb : Below wF.heap.size wF wH := hb6.trans (hO.below hb6.size fun k hk => Nat.le_of_eq hk.symm)
  have HVH := Lib.hid hD
  have HKH := Lib.hid (HKF.out.below hbb)
  have HGSH := Lib.hid (HGSF.out.below hbb)
  have HTH := Lib.hid (HTF.out.below hbb)
  clear hA hb6 hl6 hD hO hlD hbb HKF HGSF HTF
  generalize wF.heap.size = vB at *
  refine takeL (.int .i64 0) rfl (by go_simp) ?_
  try simp only [Act.put, List.setIfInBounds_toArray, List.set_cons_succ, List.set_cons_zero]
  refine wpList_nil ?_
  have HR2 : Hid (∀ wq fw, Below wH.heap.size wH wq → IntsAt wq fw [4] → Calls Tryz.prog 16 #[.pointer (some ⟨b, 0, none⟩), WG.v, .agg #[.int .i64 3, .int .i64 2, .int .u32 7, fw]] wq fun e w' => ∃ ma mc tv2, e = .returned (.tuple #[.slice ma 0 mc, .agg #[.int .i64 3, .int .i64 2, .int .u32 7, tv2], .int .i64 0]) ∧ IntsAt w' tv2 [4] ∧ Below wq.heap.size wq w') := Lib.hid fun wq fw hb hi => (sread_yes (g := WG) (a := WA2) (fv := fw) (HKH.out.below hb).jn.dv HX.out.img (by have h1 := HX.out.img.len; have h2 := HS2.out; omega) (by rw [HL2.out]; decide) (by rw [HS2.out]; decide) (seqN 7 (by decide)) hi).mono (by
    rintro e w' ⟨P, b1, lv, tv, hway, hend, rfl, hgs, htv, hb⟩
    obtain ⟨u1, u2⟩ := Way.uniq .nil (HX.out.read (zero_nh _)).2 hway hend
    subst u1
    subst u2
    obtain ⟨a0, c0, hlv⟩ := hgs.form
    exact ⟨a0, c0, tv, by rw [hlv]; rfl, htv, hb⟩)
  have HAT := Lib.hid fun wq (hb : Below wH.heap.size wH wq) => at_any (HKH.out.below hb).jn
  go_upto_region 10 with fail
  go_cut [10, 12] from 54 to 62 (fun s10 s12 wx => ∃ ma mc, s10 = .slice ma 0 mc ∧ s12 = .int .i64 0 ∧ Below wH.heap.size wH wx)
  case first =>
    refine startH (fun wq => Below wH.heap.size wH wq) (by kernel_rfl) ?_
    have HSd : Hid (Below wH.heap.size wH wH.drew) := Lib.hid (Below.refl _ _).drew
    generalize wH.drew = wS at *
    refine takeH 0 (some 54) (.pointer (some ⟨b, 0, none⟩)) rfl rfl (by kernel_rfl) (by kernel_rfl) (by kernel_rfl) (fun _ _ _ h => h) rfl (fun wq hS => by go_simp) HSd.out ?_
    try simp only [Act.put, List.setIfInBounds_toArray, List.set_cons_succ, List.set_cons_zero]
    refine takeH 1 (some 55) (.agg #[.int .i64 16, .int .i64 8, .int .i64 24, .int .i64 4]) rfl rfl (by kernel_rfl) (by kernel_rfl) (by kernel_rfl) (fun _ _ _ h => h) rfl (fun wq hS => by have q := (HKH.out.below hS).gb; have q0 := q.cell (i := 0) rfl; have q1 := q.cell (i := 1) rfl; have q2 := q.cell (i := 2) rfl; have q3 := q.cell (i := 3) rfl; go_simp) HSd.out ?_
    try simp only [Act.put, List.setIfInBounds_toArray, List.set_cons_succ, List.set_cons_zero]
    refine takeH 2 (some 56) (.pointer (some ⟨jb, 0, none⟩)) rfl rfl (by kernel_rfl) (by kernel_rfl) (by kernel_rfl) (fun _ _ _ h => h) rfl (fun wq hS => by go_simp) HSd.out ?_
    try simp only [Act.put, List.setIfInBounds_toArray, List.set_cons_succ, List.set_cons_zero]
    refine twoH 3 9 (by kernel_rfl) rfl rfl rfl rfl (fun K hK => ?_) (fun K hK => ?_)
    · go_simp
      refine (HAT.out wS HSd.out).mono ?_
      rintro e v1 ⟨tv, rfl, ho, hb⟩
      have Sv1 := Lib.hid (stay HSd.out hb)
      have HTA := Lib.hid ho.ints
      obtain ⟨xa, xc, hxv⟩ := ho.ints.form
      subst hxv
      refine hK _ _ Sv1.out ?_
      clear hK K ho hb
      try simp only [Act.put, List.setIfInBounds_toArray, List.set_cons_succ, List.set_cons_zero]
      refine twoH 4 9 (by kernel_rfl) rfl rfl rfl rfl (fun K hK => ?_) (fun K hK => ?_)
      · go_simp
        refine (HR2.out v1 (.slice xa 1 xc) Sv1.out HTA.out).mono ?_
        rintro e v2 ⟨ma, mc, tv2, rfl, ht, hb⟩
        have Sv2 := Lib.hid (stay Sv1.out hb)
        obtain ⟨za, zc, hzv⟩ := ht.form
        subst hzv
        refine hK _ _ Sv2.out ?_
        clear hK K ht hb
        try simp only [Act.put, List.setIfInBounds_toArray, List.set_cons_succ, List.set_cons_zero]
        refine takeH 5 (some 53) (.tuple #[.slice ma 0 mc, .agg #[.int .i64 3, .int .i64 2, .int .u32 7, .slice za 1 zc], .int .i64 0]) rfl rfl (by kernel_rfl) (by kernel_rfl) (by kernel_rfl) (fun _ _ _ h => h) rfl (fun wq hS => by go_simp) Sv2.out ?_
        try simp only [Act.put, List.setIfInBounds_toArray, List.set_cons_succ, List.set_cons_zero]
        refine takeH 6 (some 59) (.slice ma 0 mc) rfl rfl (by kernel_rfl) (by kernel_rfl) (by kernel_rfl) (fun _ _ _ h => h) rfl (fun wq hS => by go_simp) Sv2.out ?_
        try simp only [Act.put, List.setIfInBounds_toArray, List.set_cons_succ, List.set_cons_zero]
        refine takeH 7 (some 60) (.agg #[.int .i64 3, .int .i64 2, .int .u32 7, .slice za 1 zc]) rfl rfl (by kernel_rfl) (by kernel_rfl) (by kernel_rfl) (fun _ _ _ h => h) rfl (fun wq hS => by go_simp) Sv2.out ?_
        try simp only [Act.put, List.setIfInBounds_toArray, List.set_cons_succ, List.set_cons_zero]
        refine takeH 8 (some 61) (.int .i64 0) rfl rfl (by kernel_rfl) (by kernel_rfl) (by kernel_rfl) (fun _ _ _ h => h) rfl (fun wq hS => by go_simp) Sv2.out ?_
        try simp only [Act.put, List.setIfInBounds_toArray, List.set_cons_succ, List.set_cons_zero]
        refine oneH 9 (by kernel_rfl) rfl rfl fun K hK => ?_
        refine wp_runTo (some 11) rfl _ _ (exec_alloc _ _ _ 40 rfl _ zero40) ?_
        have hb := alloc_bel v2 (.cells #[.int .i64 0, .int .i64 0, .int .u32 0, .slice none 0 0] 40)
        have Kv3 := Lib.hid (Blk.new v2 #[.int .i64 0, .int .i64 0, .int .u32 0, .slice none 0 0] 40)
        have Sv3 := Lib.hid (stay Sv2.out hb)
        have KL : Hid (wH.heap.size ≤ v2.heap.size) := Lib.hid Sv2.out.size
        refine hK _ _ Sv3.out ?_
        clear hK K hb
        generalize v2.alloc (.cells #[.int .i64 0, .int .i64 0, .int .u32 0, .slice none 0 0] 40) = v3 at *
        generalize v2.heap.size = kB at *
        try simp only [Act.put, List.setIfInBounds_toArray, List.set_cons_succ, List.set_cons_zero]
        refine takeH 10 (some 10) (.slice ma 0 mc) rfl rfl (by kernel_rfl) (by kernel_rfl) (by kernel_rfl) (fun _ _ _ h => h) rfl (fun wq hS => by go_simp) Sv3.out ?_
        try simp only [Act.put, List.setIfInBounds_toArray, List.set_cons_succ, List.set_cons_zero]
        refine oneH 11 (by kernel_rfl) rfl rfl fun K hK => ?_
        refine wp_store_all 40 _ _ rfl kB #[.int .i64 3, .int .i64 2, .int .u32 7, .slice za 1 zc] rfl rfl _ Kv3.out rfl info40 (at_one _ _ _ _ _ _) ?_
        intro wz hD hO
        have SZ : Hid (Below wH.heap.size wH wz) := Lib.hid (Sv3.out.trans (hO.below Sv3.out.size fun k hk => by rw [hk]; exact KL.out))
        refine hK _ _ SZ.out ?_
        clear hK K hD hO
        try simp only [Act.put, List.setIfInBounds_toArray, List.set_cons_succ, List.set_cons_zero]
        refine takeH 12 (some 12) (.int .i64 0) rfl rfl (by kernel_rfl) (by kernel_rfl) (by kernel_rfl) (fun _ _ _ h => h) rfl (fun wq hS => by go_simp) SZ.out ?_
        try simp only [Act.put, List.setIfInBounds_toArray, List.set_cons_succ, List.set_cons_zero]
        refine wpAnyH_done (by kernel_rfl) ?_ _
        go_wp2_with fail
        go_meet
        exact ⟨ma, mc, rfl, rfl, SZ.out⟩
      · refine wp_runTo (some 11) rfl _ _ (exec_alloc _ _ _ 40 rfl _ zero40) ?_
        have hb := alloc_bel v1 (.cells #[.int .i64 0, .int .i64 0, .int .u32 0, .slice none 0 0] 40)
        have Kv4 := Lib.hid (Blk.new v1 #[.int .i64 0, .int .i64 0, .int .u32 0, .slice none 0 0] 40)
        have Sv4 := Lib.hid (stay Sv1.out hb)
        have KL : Hid (wH.heap.size ≤ v1.heap.size) := Lib.hid Sv1.out.size
        have HTA2 := Lib.hid (HTA.out.below hb)
        refine hK _ _ Sv4.out ?_
        clear hK K hb
        generalize v1.alloc (.cells #[.int .i64 0, .int .i64 0, .int .u32 0, .slice none 0 0] 40) = v4 at *
        generalize v1.heap.size = kB at *
        try simp only [Act.put, List.setIfInBounds_toArray, List.set_cons_succ, List.set_cons_zero]
        clear HTA
        have HTA := HTA2
        refine oneH 4 (by kernel_rfl) rfl rfl fun K hK => ?_
        go_simp
        refine (HR2.out v4 (.slice xa 1 xc) Sv4.out HTA.out).mono ?_
        rintro e v5 ⟨ma, mc, tv2, rfl, ht, hb⟩
        have Sv5 := Lib.hid (stay Sv4.out hb)
        have Kv5 := Lib.hid (Kv4.out.below hb Kv4.out.lt)
        obtain ⟨za, zc, hzv⟩ := ht.form
        subst hzv
        refine hK _ _ Sv5.out ?_
        clear hK K ht hb
        try simp only [Act.put, List.setIfInBounds_toArray, List.set_cons_succ, List.set_cons_zero]
        refine takeH 5 (some 53) (.tuple #[.slice ma 0 mc, .agg #[.int .i64 3, .int .i64 2, .int .u32 7, .slice za 1 zc], .int .i64 0]) rfl rfl (by kernel_rfl) (by kernel_rfl) (by kernel_rfl) (fun _ _ _ h => h) rfl (fun wq hS => by go_simp) Sv5.out ?_
        try simp only [Act.put, List.setIfInBounds_toArray, List.set_cons_succ, List.set_cons_zero]
        refine takeH 6 (some 59) (.slice ma 0 mc) rfl rfl (by kernel_rfl) (by kernel_rfl) (by kernel_rfl) (fun _ _ _ h => h) rfl (fun wq hS => by go_simp) Sv5.out ?_
        try simp only [Act.put, List.setIfInBounds_toArray, List.set_cons_succ, List.set_cons_zero]
        refine takeH 7 (some 60) (.agg #[.int .i64 3, .int .i64 2, .int .u32 7, .slice za 1 zc]) rfl rfl (by kernel_rfl) (by kernel_rfl) (by kernel_rfl) (fun _ _ _ h => h) rfl (fun wq hS => by go_simp) Sv5.out ?_
        try simp only [Act.put, List.setIfInBounds_toArray, List.set_cons_succ, List.set_cons_zero]
        refine takeH 8 (some 61) (.int .i64 0) rfl rfl (by kernel_rfl) (by kernel_rfl) (by kernel_rfl) (fun _ _ _ h => h) rfl (fun wq hS => by go_simp) Sv5.out ?_
        try simp only [Act.put, List.setIfInBounds_toArray, List.set_cons_succ, List.set_cons_zero]
        refine takeH 10 (some 10) (.slice ma 0 mc) rfl rfl (by kernel_rfl) (by kernel_rfl) (by kernel_rfl) (fun _ _ _ h => h) rfl (fun wq hS => by go_simp) Sv5.out ?_
        try simp only [Act.put, List.setIfInBounds_toArray, List.set_cons_succ, List.set_cons_zero]
        refine oneH 11 (by kernel_rfl) rfl rfl fun K hK => ?_
        refine wp_store_all 40 _ _ rfl kB #[.int .i64 3, .int .i64 2, .int .u32 7, .slice za 1 zc] rfl rfl _ Kv5.out rfl info40 (at_one _ _ _ _ _ _) ?_
        intro wz hD hO
        have SZ : Hid (Below wH.heap.size wH wz) := Lib.hid (Sv5.out.trans (hO.below Sv5.out.size fun k hk => by rw [hk]; exact KL.out))
        refine hK _ _ SZ.out ?_
        clear hK K hD hO
        try simp only [Act.put, List.setIfInBounds_toArray, List.set_cons_succ, List.set_cons_zero]
        refine takeH 12 (some 12) (.int .i64 0) rfl rfl (by kernel_rfl) (by kernel_rfl) (by kernel_rfl) (fun _ _ _ h => h) rfl (fun wq hS => by go_simp) SZ.out ?_
        try simp only [Act.put, List.setIfInBounds_toArray, List.set_cons_succ, List.set_cons_zero]
        refine wpAnyH_done (by kernel_rfl) ?_ _
        go_wp2_with fail
        go_meet
        exact ⟨ma, mc, rfl, rfl, SZ.out⟩
    · refine wp_runTo (some 11) rfl _ _ (exec_alloc _ _ _ 40 rfl _ zero40) ?_
      have hb := alloc_bel wS (.cells #[.int .i64 0, .int .i64 0, .int .u32 0, .slice none 0 0] 40)
      have Kv6 := Lib.hid (Blk.new wS #[.int .i64 0, .int .i64 0, .int .u32 0, .slice none 0 0] 40)
      have Sv6 := Lib.hid (stay HSd.out hb)
      have KL : Hid (wH.heap.size ≤ wS.heap.size) := Lib.hid HSd.out.size
      refine hK _ _ Sv6.out ?_
      clear hK K hb
      generalize wS.alloc (.cells #[.int .i64 0, .int .i64 0, .int .u32 0, .slice none 0 0] 40) = v6 at *
      generalize wS.heap.size = kB at *
      try simp only [Act.put, List.setIfInBounds_toArray, List.set_cons_succ, List.set_cons_zero]
      refine oneH 3 (by kernel_rfl) rfl rfl fun K hK => ?_
      go_simp
      refine (HAT.out v6 Sv6.out).mono ?_
      rintro e v7 ⟨tv, rfl, ho, hb⟩
      have Sv7 := Lib.hid (stay Sv6.out hb)
      have Kv7 := Lib.hid (Kv6.out.below hb Kv6.out.lt)
      have HTA := Lib.hid ho.ints
      obtain ⟨xa, xc, hxv⟩ := ho.ints.form
      subst hxv
      refine hK _ _ Sv7.out ?_
      clear hK K ho hb
      try simp only [Act.put, List.setIfInBounds_toArray, List.set_cons_succ, List.set_cons_zero]
      refine oneH 4 (by kernel_rfl) rfl rfl fun K hK => ?_
      go_simp
      refine (HR2.out v7 (.slice xa 1 xc) Sv7.out HTA.out).mono ?_
      rintro e v8 ⟨ma, mc, tv2, rfl, ht, hb⟩
      have Sv8 := Lib.hid (stay Sv7.out hb)
      have Kv8 := Lib.hid (Kv7.out.below hb Kv7.out.lt)
      obtain ⟨za, zc, hzv⟩ := ht.form
      subst hzv
      refine hK _ _ Sv8.out ?_
      clear hK K ht hb
      try simp only [Act.put, List.setIfInBounds_toArray, List.set_cons_succ, List.set_cons_zero]
      refine takeH 5 (some 53) (.tuple #[.slice ma 0 mc, .agg #[.int .i64 3, .int .i64 2, .int .u32 7, .slice za 1 zc], .int .i64 0]) rfl rfl (by kernel_rfl) (by kernel_rfl) (by kernel_rfl) (fun _ _ _ h => h) rfl (fun wq hS => by go_simp) Sv8.out ?_
      try simp only [Act.put, List.setIfInBounds_toArray, List.set_cons_succ, List.set_cons_zero]
      refine takeH 6 (some 59) (.slice ma 0 mc) rfl rfl (by kernel_rfl) (by kernel_rfl) (by kernel_rfl) (fun _ _ _ h => h) rfl (fun wq hS => by go_simp) Sv8.out ?_
      try simp only [Act.put, List.setIfInBounds_toArray, List.set_cons_succ, List.set_cons_zero]
      refine takeH 7 (some 60) (.agg #[.int .i64 3, .int .i64 2, .int .u32 7, .slice za 1 zc]) rfl rfl (by kernel_rfl) (by kernel_rfl) (by kernel_rfl) (fun _ _ _ h => h) rfl (fun wq hS => by go_simp) Sv8.out ?_
      try simp only [Act.put, List.setIfInBounds_toArray, List.set_cons_succ, List.set_cons_zero]
      refine takeH 8 (some 61) (.int .i64 0) rfl rfl (by kernel_rfl) (by kernel_rfl) (by kernel_rfl) (fun _ _ _ h => h) rfl (fun wq hS => by go_simp) Sv8.out ?_
      try simp only [Act.put, List.setIfInBounds_toArray, List.set_cons_succ, List.set_cons_zero]
      refine takeH 10 (some 10) (.slice ma 0 mc) rfl rfl (by kernel_rfl) (by kernel_rfl) (by kernel_rfl) (fun _ _ _ h => h) rfl (fun wq hS => by go_simp) Sv8.out ?_
      try simp only [Act.put, List.setIfInBounds_toArray, List.set_cons_succ, List.set_cons_zero]
      refine oneH 11 (by kernel_rfl) rfl rfl fun K hK => ?_
      refine wp_store_all 40 _ _ rfl kB #[.int .i64 3, .int .i64 2, .int .u32 7, .slice za 1 zc] rfl rfl _ Kv8.out rfl info40 (at_one _ _ _ _ _ _) ?_
      intro wz hD hO
      have SZ : Hid (Below wH.heap.size wH wz) := Lib.hid (Sv8.out.trans (hO.below Sv8.out.size fun k hk => by rw [hk]; exact KL.out))
      refine hK _ _ SZ.out ?_
      clear hK K hD hO
      try simp only [Act.put, List.setIfInBounds_toArray, List.set_cons_succ, List.set_cons_zero]
      refine takeH 12 (some 12) (.int .i64 0) rfl rfl (by kernel_rfl) (by kernel_rfl) (by kernel_rfl) (fun _ _ _ h => h) rfl (fun wq hS => by go_simp) SZ.out ?_
      try simp only [Act.put, List.setIfInBounds_toArray, List.set_cons_succ, List.set_cons_zero]
      refine wpAnyH_done (by kernel_rfl) ?_ _
      go_wp2_with fail
      go_meet
      exact ⟨ma, mc, rfl, rfl, SZ.out⟩
  case rest =>
  obtain ⟨ma, mc, rfl, rfl, hb⟩ := hcut
  have HKI := Lib.hid (HKH.out.below hb)
  have HVI := Lib.hid (HVH.out.below hb HVH.out.lt)
  have HTI := Lib.hid (HTH.out.below hb)
  obtain ⟨lg, lcap, iv2, pv2, pl, hl, hlc, c0, c1, hi2, hpl, hp2⟩ := (HGSH.out.below hb).at (i := 1) rfl
  clear hb HKH HVH HTH HGSH HAT HR2
  injection hl with hl1 hl2 hl3
  subst hl1
  subst hl3
  have HC0 := Lib.hid c0
  have HC1 := Lib.hid c1
  have HP2 := Lib.hid hp2
  obtain ⟨pa2, pc2, hpv⟩ := hp2.form
  subst hpv
  obtain ⟨ia, ic, hiv, -⟩ := id hi2
  have hpl1 : pl.length = 1 := by have := congrArg List.length hpl; simpa [WL3] using this
  rw [hpl1] at hiv
  obtain ⟨ib, io, hia, hcm⟩ : ∃ ib io, ia = some ⟨ib, io, none⟩ ∧ wc.cell? ⟨ib, io + 1, none⟩ = some (.int .i64 4) := by
    obtain ⟨a3, c3, e3, -, h3⟩ := hi2
    match pl, hpl with
    | [x], hpl =>
      obtain ⟨k1, k2, ib, io, k3, k4⟩ := h3 0 x rfl
      rw [hiv] at e3
      injection e3 with e4 e5 e6
      refine ⟨ib, io, by rw [e4, k3], ?_⟩
      obtain ⟨y, bv⟩ := x
      obtain rfl : y = imgI 4 8 := by simpa [WL3] using hpl
      have := k4 1 (by rw [It.arr_size k1]; decide)
      simp only [Nat.zero_mul, Nat.add_zero] at this
      exact this
  subst hia
  subst hiv
  have HCM := Lib.hid hcm
  clear c0 c1 hp2 hi2 hpl hpl1 hcm hlc hl2
  have HI77 := Lib.hid fun sv tv w h k => ints_any [77] [77] (by decide) (by decide) sv tv w h k
  rw [show decide (([77] : List Int) = [77]) = true by decide] at HI77
  go_upto_region 11 with fail
  refine startH (fun wq => Below wc.heap.size wc wq) (by kernel_rfl) ?_
  have HS0 : Hid (Below wc.heap.size wc wc.drew) := Lib.hid (Below.refl _ _).drew
  generalize wc.drew = u0 at *
  refine takeH 0 (some 62) (.int .i64 0) rfl rfl (by kernel_rfl) (by kernel_rfl) (by kernel_rfl) (fun _ _ _ h => h) rfl (fun wq hS => by go_simp) HS0.out ?_
  try simp only [Act.put, List.setIfInBounds_toArray, List.set_cons_succ, List.set_cons_zero]
  refine takeH 1 (some 63) (.bool true) rfl rfl (by kernel_rfl) (by kernel_rfl) (by kernel_rfl) (fun _ _ _ h => h) rfl (fun wq hS => by go_simp) HS0.out ?_
  try simp only [Act.put, List.setIfInBounds_toArray, List.set_cons_succ, List.set_cons_zero]
  refine takeH 2 (some 64) (.bool true) rfl rfl (by kernel_rfl) (by kernel_rfl) (by kernel_rfl) (fun _ _ _ h => h) rfl (fun wq hS => by go_simp) HS0.out ?_
  try simp only [Act.put, List.setIfInBounds_toArray, List.set_cons_succ, List.set_cons_zero]
  refine takeH 3 (some 65) (.slice (some ⟨lg, 0, none⟩) 2 lc) rfl rfl (by kernel_rfl) (by kernel_rfl) (by kernel_rfl) (fun _ _ _ h => h) rfl (fun wq hS => by go_simp) HS0.out ?_
  try simp only [Act.put, List.setIfInBounds_toArray, List.set_cons_succ, List.set_cons_zero]
  refine takeH 4 (some 66) (.int .i64 2) rfl rfl (by kernel_rfl) (by kernel_rfl) (by kernel_rfl) (fun _ _ _ h => h) rfl (fun wq hS => by go_simp) HS0.out ?_
  try simp only [Act.put, List.setIfInBounds_toArray, List.set_cons_succ, List.set_cons_zero]
  refine takeH 5 (some 67) (.bool true) rfl rfl (by kernel_rfl) (by kernel_rfl) (by kernel_rfl) (fun _ _ _ h => h) rfl (fun wq hS => by go_simp) HS0.out ?_
  try simp only [Act.put, List.setIfInBounds_toArray, List.set_cons_succ, List.set_cons_zero]
  refine takeH 6 (some 68) (.bool true) rfl rfl (by kernel_rfl) (by kernel_rfl) (by kernel_rfl) (fun _ _ _ h => h) rfl (fun wq hS => by go_simp) HS0.out ?_
  try simp only [Act.put, List.setIfInBounds_toArray, List.set_cons_succ, List.set_cons_zero]
  refine takeH 7 (some 69) (.bool true) rfl rfl (by kernel_rfl) (by kernel_rfl) (by kernel_rfl) (fun _ _ _ h => h) rfl (fun wq hS => by go_simp) HS0.out ?_
  try simp only [Act.put, List.setIfInBounds_toArray, List.set_cons_succ, List.set_cons_zero]
  refine takeH 8 (some 70) (.slice (some ⟨lg, 0, none⟩) 2 lc) rfl rfl (by kernel_rfl) (by kernel_rfl) (by kernel_rfl) (fun _ _ _ h => h) rfl (fun wq hS => by go_simp) HS0.out ?_
  try simp only [Act.put, List.setIfInBounds_toArray, List.set_cons_succ, List.set_cons_zero]
  refine takeH 9 (some 71) (.pointer (some ⟨lg, 2, none⟩)) rfl rfl (by kernel_rfl) (by kernel_rfl) (by kernel_rfl) (fun _ _ _ h => h) rfl (fun wq hS => by go_simp) HS0.out ?_
  try simp only [Act.put, List.setIfInBounds_toArray, List.set_cons_succ, List.set_cons_zero]
  refine takeH 10 (some 72) (.pointer (some ⟨lg, 3, none⟩)) rfl rfl (by kernel_rfl) (by kernel_rfl) (by kernel_rfl) (fun _ _ _ h => h) rfl (fun wq hS => by go_simp) HS0.out ?_
  try simp only [Act.put, List.setIfInBounds_toArray, List.set_cons_succ, List.set_cons_zero]
  refine takeH 11 (some 73) (.slice pa2 1 pc2) rfl rfl (by kernel_rfl) (by kernel_rfl) (by kernel_rfl) (fun _ _ _ h => h) rfl (fun wq hS => by have q := (hS.cell (block_lt_of_cell HC1.out)).trans HC1.out; go_simp) HS0.out ?_
  try simp only [Act.put, List.setIfInBounds_toArray, List.set_cons_succ, List.set_cons_zero]
  refine oneH 12 (by kernel_rfl) rfl rfl fun K hK => ?_
  refine wp_runTo (some 74) rfl (.slice (some ⟨u0.heap.size, 0, none⟩) 1 1) (u0.alloc (.cells #[.int .i64 77] 3)) (by go_simp) ?_
  have HL1 : Hid (IntsAt (u0.alloc (.cells #[.int .i64 77] 3)) (.slice (some ⟨u0.heap.size, 0, none⟩) 1 1) [77]) := Lib.hid (OwnN.lit u0 u0.heap.size (Nat.le_refl _) [77] (by decide) _ rfl).ints
  have HS1 := Lib.hid (stay HS0.out (alloc_bel u0 (.cells #[.int .i64 77] 3)))
  generalize u0.alloc (.cells #[.int .i64 77] 3) = u1 at *
  generalize u0.heap.size = g1 at *
  refine hK _ _ HS1.out ?_
  clear hK K
  try simp only [Act.put, List.setIfInBounds_toArray, List.set_cons_succ, List.set_cons_zero]
  refine oneH 13 (by kernel_rfl) rfl rfl fun K hK => ?_
  go_simp
  refine (HI77.out _ _ _ (HP2.out.below HS1.out) HL1.out).mono ?_
  rintro e u2 ⟨rfl, hb⟩
  have HS2 := Lib.hid (stay HS1.out hb)
  refine hK _ _ HS2.out ?_
  clear hK K hb
  try simp only [Act.put, List.setIfInBounds_toArray, List.set_cons_succ, List.set_cons_zero]
  refine takeH 14 (some 76) (.bool true) rfl rfl (by kernel_rfl) (by kernel_rfl) (by kernel_rfl) (fun _ _ _ h => h) rfl (fun wq hS => by go_simp) HS2.out ?_
  try simp only [Act.put, List.setIfInBounds_toArray, List.set_cons_succ, List.set_cons_zero]
  refine takeH 15 (some 77) (.bool true) rfl rfl (by kernel_rfl) (by kernel_rfl) (by kernel_rfl) (fun _ _ _ h => h) rfl (fun wq hS => by go_simp) HS2.out ?_
  try simp only [Act.put, List.setIfInBounds_toArray, List.set_cons_succ, List.set_cons_zero]
  refine takeH 16 (some 78) (.slice (some ⟨lg, 0, none⟩) 2 lc) rfl rfl (by kernel_rfl) (by kernel_rfl) (by kernel_rfl) (fun _ _ _ h => h) rfl (fun wq hS => by go_simp) HS2.out ?_
  try simp only [Act.put, List.setIfInBounds_toArray, List.set_cons_succ, List.set_cons_zero]
  refine takeH 17 (some 79) (.pointer (some ⟨lg, 2, none⟩)) rfl rfl (by kernel_rfl) (by kernel_rfl) (by kernel_rfl) (fun _ _ _ h => h) rfl (fun wq hS => by go_simp) HS2.out ?_
  try simp only [Act.put, List.setIfInBounds_toArray, List.set_cons_succ, List.set_cons_zero]
  refine takeH 18 (some 80) (.pointer (some ⟨lg, 2, none⟩)) rfl rfl (by kernel_rfl) (by kernel_rfl) (by kernel_rfl) (fun _ _ _ h => h) rfl (fun wq hS => by go_simp) HS2.out ?_
  try simp only [Act.put, List.setIfInBounds_toArray, List.set_cons_succ, List.set_cons_zero]
  refine takeH 19 (some 81) (.slice (some ⟨ib, io, none⟩) 1 ic) rfl rfl (by kernel_rfl) (by kernel_rfl) (by kernel_rfl) (fun _ _ _ h => h) rfl (fun wq hS => by have q := (hS.cell (block_lt_of_cell HC0.out)).trans HC0.out; go_simp) HS2.out ?_
  try simp only [Act.put, List.setIfInBounds_toArray, List.set_cons_succ, List.set_cons_zero]
  refine takeH 20 (some 82) (.int .i64 1) rfl rfl (by kernel_rfl) (by kernel_rfl) (by kernel_rfl) (fun _ _ _ h => h) rfl (fun wq hS => by go_simp) HS2.out ?_
  try simp only [Act.put, List.setIfInBounds_toArray, List.set_cons_succ, List.set_cons_zero]
  refine takeH 21 (some 83) (.bool true) rfl rfl (by kernel_rfl) (by kernel_rfl) (by kernel_rfl) (fun _ _ _ h => h) rfl (fun wq hS => by go_simp) HS2.out ?_
  try simp only [Act.put, List.setIfInBounds_toArray, List.set_cons_succ, List.set_cons_zero]
  refine takeH 22 (some 84) (.bool true) rfl rfl (by kernel_rfl) (by kernel_rfl) (by kernel_rfl) (fun _ _ _ h => h) rfl (fun wq hS => by go_simp) HS2.out ?_
  try simp only [Act.put, List.setIfInBounds_toArray, List.set_cons_succ, List.set_cons_zero]
  refine takeH 23 (some 85) (.bool true) rfl rfl (by kernel_rfl) (by kernel_rfl) (by kernel_rfl) (fun _ _ _ h => h) rfl (fun wq hS => by go_simp) HS2.out ?_
  try simp only [Act.put, List.setIfInBounds_toArray, List.set_cons_succ, List.set_cons_zero]
  refine takeH 24 (some 86) (.slice (some ⟨lg, 0, none⟩) 2 lc) rfl rfl (by kernel_rfl) (by kernel_rfl) (by kernel_rfl) (fun _ _ _ h => h) rfl (fun wq hS => by go_simp) HS2.out ?_
  try simp only [Act.put, List.setIfInBounds_toArray, List.set_cons_succ, List.set_cons_zero]
  refine takeH 25 (some 87) (.pointer (some ⟨lg, 2, none⟩)) rfl rfl (by kernel_rfl) (by kernel_rfl) (by kernel_rfl) (fun _ _ _ h => h) rfl (fun wq hS => by go_simp) HS2.out ?_
  try simp only [Act.put, List.setIfInBounds_toArray, List.set_cons_succ, List.set_cons_zero]
  refine takeH 26 (some 88) (.pointer (some ⟨lg, 2, none⟩)) rfl rfl (by kernel_rfl) (by kernel_rfl) (by kernel_rfl) (fun _ _ _ h => h) rfl (fun wq hS => by go_simp) HS2.out ?_
  try simp only [Act.put, List.setIfInBounds_toArray, List.set_cons_succ, List.set_cons_zero]
  refine takeH 27 (some 89) (.slice (some ⟨ib, io, none⟩) 1 ic) rfl rfl (by kernel_rfl) (by kernel_rfl) (by kernel_rfl) (fun _ _ _ h => h) rfl (fun wq hS => by have q := (hS.cell (block_lt_of_cell HC0.out)).trans HC0.out; go_simp) HS2.out ?_
  try simp only [Act.put, List.setIfInBounds_toArray, List.set_cons_succ, List.set_cons_zero]
  refine takeH 28 (some 90) (.pointer (some ⟨ib, io, none⟩)) rfl rfl (by kernel_rfl) (by kernel_rfl) (by kernel_rfl) (fun _ _ _ h => h) rfl (fun wq hS => by go_simp) HS2.out ?_
  try simp only [Act.put, List.setIfInBounds_toArray, List.set_cons_succ, List.set_cons_zero]
  refine takeH 29 (some 91) (.pointer (some ⟨ib, io, none⟩)) rfl rfl (by kernel_rfl) (by kernel_rfl) (by kernel_rfl) (fun _ _ _ h => h) rfl (fun wq hS => by go_simp) HS2.out ?_
  try simp only [Act.put, List.setIfInBounds_toArray, List.set_cons_succ, List.set_cons_zero]
  refine takeH 30 (some 92) (.pointer (some ⟨ib, io + 1, none⟩)) rfl rfl (by kernel_rfl) (by kernel_rfl) (by kernel_rfl) (fun _ _ _ h => h) rfl (fun wq hS => by go_simp) HS2.out ?_
  try simp only [Act.put, List.setIfInBounds_toArray, List.set_cons_succ, List.set_cons_zero]
  refine takeH 31 (some 93) (.int .i64 4) rfl rfl (by kernel_rfl) (by kernel_rfl) (by kernel_rfl) (fun _ _ _ h => h) rfl (fun wq hS => by have q := (hS.cell (block_lt_of_cell HCM.out)).trans HCM.out; go_simp) HS2.out ?_
  try simp only [Act.put, List.setIfInBounds_toArray, List.set_cons_succ, List.set_cons_zero]
  refine takeH 32 (some 94) (.bool true) rfl rfl (by kernel_rfl) (by kernel_rfl) (by kernel_rfl) (fun _ _ _ h => h) rfl (fun wq hS => by go_simp) HS2.out ?_
  try simp only [Act.put, List.setIfInBounds_toArray, List.set_cons_succ, List.set_cons_zero]
  refine takeH 33 (some 95) (.bool true) rfl rfl (by kernel_rfl) (by kernel_rfl) (by kernel_rfl) (fun _ _ _ h => h) rfl (fun wq hS => by go_simp) HS2.out ?_
  try simp only [Act.put, List.setIfInBounds_toArray, List.set_cons_succ, List.set_cons_zero]
  refine takeH 34 (some 96) (.bool true) rfl rfl (by kernel_rfl) (by kernel_rfl) (by kernel_rfl) (fun _ _ _ h => h) rfl (fun wq hS => by go_simp) HS2.out ?_
  try simp only [Act.put, List.setIfInBounds_toArray, List.set_cons_succ, List.set_cons_zero]
  refine takeH 35 (some 97) (.agg #[.int .i64 3, .int .i64 2, .int .u32 7, .slice ta 1 tc]) rfl rfl (by kernel_rfl) (by kernel_rfl) (by kernel_rfl) (fun _ _ _ h => h) rfl (fun wq hS => by have q := HVI.out.below hS HVI.out.lt; have q0 := q.cell (i := 0) rfl; have q1 := q.cell (i := 1) rfl; have q2 := q.cell (i := 2) rfl; have q3 := q.cell (i := 3) rfl; go_simp) HS2.out ?_
  try simp only [Act.put, List.setIfInBounds_toArray, List.set_cons_succ, List.set_cons_zero]
  refine takeH 36 (some 98) (.pointer (some ⟨jb, 0, none⟩)) rfl rfl (by kernel_rfl) (by kernel_rfl) (by kernel_rfl) (fun _ _ _ h => h) rfl (fun wq hS => by go_simp) HS2.out ?_
  try simp only [Act.put, List.setIfInBounds_toArray, List.set_cons_succ, List.set_cons_zero]
  refine oneH 37 (by kernel_rfl) rfl rfl fun K hK => ?_
  go_simp
  refine (at_any (HKI.out.below HS2.out).jn).mono ?_
  rintro e u3 ⟨tv3, rfl, ho, hb⟩
  have HS3 := Lib.hid (stay HS2.out hb)
  have HT3 := Lib.hid ho.ints
  obtain ⟨xa, xc, hxv⟩ := ho.ints.form
  subst hxv
  refine hK _ _ HS3.out ?_
  clear hK K ho hb
  try simp only [Act.put, List.setIfInBounds_toArray, List.set_cons_succ, List.set_cons_zero]
  refine oneH 38 (by kernel_rfl) rfl rfl fun K hK => ?_
  go_simp
  refine (lown_any WA2 (.slice xa 1 xc) (by decide) HT3.out).mono ?_
  rintro e u4 ⟨tv4, rfl, ho, hb⟩
  have HS4 := Lib.hid (stay HS3.out hb)
  have HT4 := Lib.hid ho.ints
  obtain ⟨ya, yc, hyv⟩ := ho.ints.form
  subst hyv
  refine hK _ _ HS4.out ?_
  clear hK K ho hb
  try simp only [Act.put, List.setIfInBounds_toArray, List.set_cons_succ, List.set_cons_zero]
  refine oneH 39 (by kernel_rfl) rfl rfl fun K hK => ?_
  go_simp
  refine (same_yes WA2 (.slice ta 1 tc) (.slice ya 1 yc) (by decide) (HTI.out.below HS4.out) HT4.out).mono ?_
  rintro e u5 ⟨rfl, hb⟩
  have HS5 := Lib.hid (stay HS4.out hb)
  refine hK _ _ HS5.out ?_
  clear hK K hb
  try simp only [Act.put, List.setIfInBounds_toArray, List.set_cons_succ, List.set_cons_zero]
  refine takeH 40 (some 102) (.bool true) rfl rfl (by kernel_rfl) (by kernel_rfl) (by kernel_rfl) (fun _ _ _ h => h) rfl (fun wq hS => by go_simp) HS5.out ?_
  try simp only [Act.put, List.setIfInBounds_toArray, List.set_cons_succ, List.set_cons_zero]
  refine takeH 41 (some 103) (.bool true) rfl rfl (by kernel_rfl) (by kernel_rfl) (by kernel_rfl) (fun _ _ _ h => h) rfl (fun wq hS => by go_simp) HS5.out ?_
  try simp only [Act.put, List.setIfInBounds_toArray, List.set_cons_succ, List.set_cons_zero]
  refine takeH 42 (some 104) (.int .i64 0) rfl rfl (by kernel_rfl) (by kernel_rfl) (by kernel_rfl) (fun _ _ _ h => h) rfl (fun wq hS => by go_simp) HS5.out ?_
  try simp only [Act.put, List.setIfInBounds_toArray, List.set_cons_succ, List.set_cons_zero]
  refine takeH 43 (some 105) (.bool true) rfl rfl (by kernel_rfl) (by kernel_rfl) (by kernel_rfl) (fun _ _ _ h => h) rfl (fun wq hS => by go_simp) HS5.out ?_
  try simp only [Act.put, List.setIfInBounds_toArray, List.set_cons_succ, List.set_cons_zero]
  refine takeH 44 (some 106) (.bool true) rfl rfl (by kernel_rfl) (by kernel_rfl) (by kernel_rfl) (fun _ _ _ h => h) rfl (fun wq hS => by go_simp) HS5.out ?_
  try simp only [Act.put, List.setIfInBounds_toArray, List.set_cons_succ, List.set_cons_zero]
  refine takeH 45 (some 107) (.bool true) rfl rfl (by kernel_rfl) (by kernel_rfl) (by kernel_rfl) (fun _ _ _ h => h) rfl (fun wq hS => by go_simp) HS5.out ?_
  try simp only [Act.put, List.setIfInBounds_toArray, List.set_cons_succ, List.set_cons_zero]
  refine takeH 46 (some 108) (.slice ma 0 mc) rfl rfl (by kernel_rfl) (by kernel_rfl) (by kernel_rfl) (fun _ _ _ h => h) rfl (fun wq hS => by go_simp) HS5.out ?_
  try simp only [Act.put, List.setIfInBounds_toArray, List.set_cons_succ, List.set_cons_zero]
  refine takeH 47 (some 109) (.int .i64 0) rfl rfl (by kernel_rfl) (by kernel_rfl) (by kernel_rfl) (fun _ _ _ h => h) rfl (fun wq hS => by go_simp) HS5.out ?_
  try simp only [Act.put, List.setIfInBounds_toArray, List.set_cons_succ, List.set_cons_zero]
  refine takeH 48 (some 110) (.bool true) rfl rfl (by kernel_rfl) (by kernel_rfl) (by kernel_rfl) (fun _ _ _ h => h) rfl (fun wq hS => by go_simp) HS5.out ?_
  try simp only [Act.put, List.setIfInBounds_toArray, List.set_cons_succ, List.set_cons_zero]
  refine takeH 49 (some 111) (.bool true) rfl rfl (by kernel_rfl) (by kernel_rfl) (by kernel_rfl) (fun _ _ _ h => h) rfl (fun wq hS => by go_simp) HS5.out ?_
  try simp only [Act.put, List.setIfInBounds_toArray, List.set_cons_succ, List.set_cons_zero]
  refine takeH 50 (some 0) (.bool true) rfl rfl (by kernel_rfl) (by kernel_rfl) (by kernel_rfl) (fun _ _ _ h => h) rfl (fun wq hS => by go_simp) HS5.out ?_
  try simp only [Act.put, List.setIfInBounds_toArray, List.set_cons_succ, List.set_cons_zero]
  refine wpAnyH_done (by kernel_rfl) ?_ _
  have HBE := Lib.hid (stay HKI.out.bel HS5.out)
  go_wp2_with fail
  go_ret
  exact ⟨rfl, HBE.out⟩
end

end Go.Proofs.YthlnmdihdcfphaaGreatDoor
