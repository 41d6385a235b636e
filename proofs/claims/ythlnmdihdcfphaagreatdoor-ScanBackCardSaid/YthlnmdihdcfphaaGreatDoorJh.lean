/- Package journal: Put. -/
import Derived.Test.YthlnmdihdcfphaaGreatDoorMf
namespace Go.Proofs.YthlnmdihdcfphaaGreatDoor
set_option linter.unusedSimpArgs false
set_option linter.unusedVariables false
open Go.RowKit

theorem OwnS.far {w w' : World} {B : Nat} {sv : Value} {l : List (List Int)} (h : OwnS w B sv l) {F : Nat → Prop} (hF : ∀ k, F k → k < B) : ∀ b o n c, sv = .slice (some ⟨b, o, none⟩) n c → ¬ F b ∧ b < w.heap.size := fun b o n c e => by
  have := h.lt b (by rw [e]; rfl)
  exact ⟨fun hb => by have := hF b hb; omega, this.2⟩
section
variable {W w : World} {jb b : Nat} {F : Nat → Prop} {d : De.D} {g : Pl.Gm} {a : Ja} {fv : Value}
/-- A journal whose struct is turned, and other blocks that are none of the device's. -/
theorem Jn.turnS {w' : World} {a' : Ja} {fv' : Value} {S : Nat → Prop} (h : Jn W w jb b F d g a fv) (ho : Only S w w') (hS : ∀ k, S k → W.heap.size ≤ k) (hF : ∀ k, F k → ¬ S k) (hb : Blk w' jb [.pointer (some ⟨b, 0, none⟩), .int .i64 g.p, .int .i64 g.s, .int .i64 g.l, .int .i64 g.f, .int .i64 a'.seg, .int .i64 a'.off, .int .u32 a'.seq, fv'])
    (hf : IntsAt w' fv' a'.free) (hs : ∀ b' o n c, fv' = .slice (some ⟨b', o, none⟩) n c → W.heap.size ≤ b' ∧ b' ≠ jb ∧ ¬ F b' ∧ b' < w'.heap.size) (hg : a'.good g = true) (hq : Seq32 a'.seq) (hc : ∀ q n c, fv' = .slice q n c → n ≤ c) : Jn W w' jb b F d g a' fv' :=
  ⟨h.dv.go ho hS hF, hb, hf, h.lo, h.nF, hs, hg, hq, h.total, hc⟩
set_option maxRecDepth 100000 in
set_option maxHeartbeats 2000000 in
theorem put_go (h : Jn W w jb b F d g a fv) (hV : Vars W) (l : List (It × Value)) (L : List It) (hL : l.map (·.1) = L) (sv : Value) (hlen : l.length < 100000) (hi : ItemsAt w sv l) (hit : ∀ w', Only F w w' → ItemsAt w' sv l) (hyes : laid g a L = true) (a1 : Ja) (hx : nextP g a (lay2 a.seq L).1.length = some a1)
    (hS : d.S.length ≤ 1024) (hT : d.T ≤ 800000) (hLn : d.L.length ≤ 800000) : Calls Tryz.prog 28 #[.pointer (some ⟨jb, 0, none⟩), sv] w fun e w' => ∃ pv ev, e = .returned (.tuple #[pv, ev]) ∧ PutOut W w jb b F fv g (jput g a d L) pv ev w' := by
  obtain ⟨hmb, hle⟩ := laid_parts hyes
  have hnx := nextP_nx h.good hle hx
  obtain ⟨f, hf, hf4, hfn⟩ := hnx.first
  have HLA := Lib.hid (jlay_yes h l L hL sv hlen hi hyes)
  have HRO := Lib.hid fun w (h : Jn W w jb b F d g a fv) => room_any h _ a1 hx
  have HWF := Lib.hid fun v s w (h : Fault w 12 v) => wrap_fault 12 v s w h
  have HJ := Lib.hid h
  have HV := Lib.hid hV
  have HIT := Lib.hid hit
  have HPG := Lib.hid fun w' (h : ItemsAt w' sv l) => partsG_any l L hL sv hlen w' h
  have hPN : partsN L = ((parts L.length : Nat) : Int) := by unfold partsN; rw [hmb]; rfl
  have h64 := (mayBe_iff.1 hmb).2.1
  have hP3 := parts_pos hmb
  have HNG : Hid (∀ s, (⟨a1.seg, a1.off + ((lay2 a.seq L).1.length : Nat), s, a1.free⟩ : Ja).good g = true) := Lib.hid hnx.good
  have HOK := Lib.hid fun hw => jput_ok (d := d) hyes hx hw
  have HNO := Lib.hid fun hw => jput_fail (d := d) hyes hx hw
  rw [hf] at HOK HNO
  have HPM : Hid (∀ x ∈ (lay2 a.seq L).2, -1 ≤ x ∧ x ≤ 2000) := Lib.hid fun x hx => by
    have := lay2_mem hx
    have := hnx.ok.2.2.1.2
    omega
  have HPL : Hid ((lay2 a.seq L).2.length ≤ 1000) := Lib.hid (by rw [lay2_at]; omega)
  obtain ⟨k, hk⟩ : ∃ k, (lay2 a.seq L).1.length = k := ⟨_, rfl⟩
  rw [hk] at hle hx hfn HRO HNG HOK hnx
  have HK := Lib.hid hk
  obtain ⟨q, hq⟩ : ∃ q, partsN L = q := ⟨_, rfl⟩
  rw [hq] at HOK HPG hPN
  have hq3 : 1 ≤ q ∧ q ≤ 3 := by omega
  obtain ⟨sa, sc, hsv⟩ := items_one hi
  obtain ⟨m, hm⟩ : ∃ m, l.length = m := ⟨_, rfl⟩
  rw [hm] at hsv
  subst hsv
  have hfS : f + k ≤ d.S.length := by have := h.total; omega
  have HFB : Hid (f + k ≤ d.S.length ∧ d.S.length ≤ 1024 ∧ d.T + k ≤ 900000 ∧ d.L.length + k ≤ 900000) := Lib.hid (by omega)
  have HGO := Lib.hid hnx.ok
  have HSEG : Hid (0 ≤ a1.seg ∧ a1.seg ≤ g.s - 1) := Lib.hid (by have := hnx.seg; omega)
  have HSQ : Hid (a1.seq = a.seq) := Lib.hid hnx.seq
  have gw : Hid (IntKind.i64.wrap (4 + a1.seg * g.l + a1.off) = (f : Int)) := Lib.hid (by
    unfold firstOf at hf
    rw [hf]
    exact wrap64 (by omega) (by omega))
  have gw2 : Hid (IntKind.i64.wrap (a1.off + (k : Int)) = a1.off + (k : Int)) := Lib.hid (wrap64 (by have := hnx.off; omega) (by have := hnx.off; have := hnx.ok.2.2.1.2; omega))
  have gw3 : Hid (IntKind.u32.wrap q = q) := Lib.hid (wrap32 (by omega) (by omega))
  have gw4 : Hid (IntKind.u32.wrap (a.seq + q) = (a.seq + q) % M32) := Lib.hid (by rw [IntKind.wrap_u32]; rfl)
  have HSZ := Lib.hid fun k hk => (h.dv.lt k hk).2
  have HWZ := Lib.hid h.dv.2.size
  have HJL := Lib.hid h.blk.lt
  clear h hV hL hlen hi hit hyes hm hx hmb hle hnx hf hk hq h64 hP3 hPN hS hT hLn hfS hfn hf4
  go_enter Tryz.func28, Tryz.ntmps28
  go_wp2_with fail
  refine HLA.out.mono ?_
  rintro e w1 ⟨s7, s8, rfl, ht⟩
  have HT := Lib.hid ht
  obtain ⟨a7, c7', hv7, -⟩ := ht.s.len
  obtain ⟨a8, c8', hv8⟩ := ht.a.ints.form
  rw [HK.out] at hv7
  obtain ⟨n8, hn8⟩ : ∃ n, (lay2 a.seq L).2.length = n := ⟨_, rfl⟩
  rw [hn8] at hv8
  have HN8 := Lib.hid hn8
  subst hv7
  subst hv8
  clear ht hn8
  go_upto_region 6 with fail
  refine wp_region_lit ?_
  refine takeL (.pointer (some ⟨jb, 0, none⟩)) rfl (by go_simp) ?_
  try simp only [Act.put, List.setIfInBounds_toArray, List.set_cons_succ, List.set_cons_zero]
  refine takeL (.slice a7 k c7') rfl (by go_simp) ?_
  try simp only [Act.put, List.setIfInBounds_toArray, List.set_cons_succ, List.set_cons_zero]
  refine takeL (.int .i64 k) rfl (by go_simp) ?_
  try simp only [Act.put, List.setIfInBounds_toArray, List.set_cons_succ, List.set_cons_zero]
  refine wpList_op rfl fun K hK => ?_
  go_simp
  refine (HRO.out _ (HJ.out.below HT.out.b)).mono ?_
  rintro e w2 ⟨tv, rfl, hr, hb⟩
  have HT2 := Lib.hid (HT.out.below hb)
  have HR := Lib.hid hr
  obtain ⟨ta, tc, htv⟩ := hr.fr.form
  obtain ⟨n9, hn9⟩ : ∃ n, a1.free.length = n := ⟨_, rfl⟩
  rw [hn9] at htv
  subst htv
  clear hr hb HT hn9
  refine hK _ _ ?_
  clear hK K
  try simp only [Act.put, List.setIfInBounds_toArray, List.set_cons_succ, List.set_cons_zero]
  refine takeL (.tuple #[.agg #[.int .i64 a1.seg, .int .i64 a1.off, .int .u32 a1.seq, .slice ta n9 tc], .nilIface]) rfl (by go_simp) ?_
  try simp only [Act.put, List.setIfInBounds_toArray, List.set_cons_succ, List.set_cons_zero]
  refine takeL (.agg #[.int .i64 a1.seg, .int .i64 a1.off, .int .u32 a1.seq, .slice ta n9 tc]) rfl (by go_simp) ?_
  try simp only [Act.put, List.setIfInBounds_toArray, List.set_cons_succ, List.set_cons_zero]
  refine takeL (.nilIface) rfl (by go_simp) ?_
  try simp only [Act.put, List.setIfInBounds_toArray, List.set_cons_succ, List.set_cons_zero]
  rw [HSQ.out]
  refine alloc_g zero40 rfl ?_
  intro w3 hA hb hl
  try simp only [Act.put, List.setIfInBounds_toArray, List.set_cons_succ, List.set_cons_zero]
  refine store_all (cs := #[.int .i64 a1.seg, .int .i64 a1.off, .int .u32 a.seq, .slice ta n9 tc]) hA rfl info40 (at_one _ _ _ _ _ _) rfl rfl rfl ?_
  intro w4 hD hO hlD
  try simp only [Act.put, List.setIfInBounds_toArray, List.set_cons_succ, List.set_cons_zero]
  have hbb : Below w2.heap.size w2 w4 := hb.trans (hO.below hb.size fun k hk => Nat.le_of_eq hk.symm)
  have HV4 := Lib.hid hD
  have HT4 := Lib.hid (HT2.out.below hbb)
  have HR4 := Lib.hid (HR.out.fr.below hbb)
  have HJ4 := Lib.hid (HJ.out.below HT4.out.b)
  have HVL : Hid (w.heap.size ≤ w2.heap.size) := Lib.hid HT2.out.b.size
  have HTV : Hid (∀ b', Value.ownBlock (.slice a8 n8 c8') = some b' → w.heap.size ≤ b' ∧ b' < w2.heap.size) := Lib.hid fun b' e => HT2.out.a.lt b' e
  clear HT2
  generalize w2.heap.size = v at *
  clear hA hb hl hD hO hlD hbb
  refine takeL (.nilIface) rfl (by go_simp) ?_
  try simp only [Act.put, List.setIfInBounds_toArray, List.set_cons_succ, List.set_cons_zero]
  refine wpList_nil ?_
  go_upto_region 9 with fail
  refine startH (fun wq => Below w4.heap.size w4 wq) (by kernel_rfl) ?_
  have HSd : Hid (Below w4.heap.size w4 w4.drew) := Lib.hid (Below.refl _ _).drew
  refine takeH 0 (some 37) (.pointer (some ⟨jb, 0, none⟩)) rfl rfl (by kernel_rfl) (by kernel_rfl) (by kernel_rfl) (fun _ _ _ h => h) rfl (fun wq hS => by go_simp) HSd.out ?_
  try simp only [Act.put, List.setIfInBounds_toArray, List.set_cons_succ, List.set_cons_zero]
  refine takeH 1 (some 38) (.pointer (some ⟨jb, 0, none⟩)) rfl rfl (by kernel_rfl) (by kernel_rfl) (by kernel_rfl) (fun _ _ _ h => h) rfl (fun wq hS => by go_simp) HSd.out ?_
  try simp only [Act.put, List.setIfInBounds_toArray, List.set_cons_succ, List.set_cons_zero]
  refine takeH 2 (some 39) (.pointer (some ⟨jb, 1, none⟩)) rfl rfl (by kernel_rfl) (by kernel_rfl) (by kernel_rfl) (fun _ _ _ h => h) rfl (fun wq hS => by go_simp) HSd.out ?_
  try simp only [Act.put, List.setIfInBounds_toArray, List.set_cons_succ, List.set_cons_zero]
  refine takeH 3 (some 40) (.agg #[.int .i64 g.p, .int .i64 g.s, .int .i64 g.l, .int .i64 g.f]) rfl rfl (by kernel_rfl) (by kernel_rfl) (by kernel_rfl) (fun _ _ _ h => h) rfl (fun wq hS => by obtain ⟨c0, c1, c2, c3, c4, c5, c6, c7, c8⟩ := (HJ4.out.below hS).cells; go_simp) HSd.out ?_
  try simp only [Act.put, List.setIfInBounds_toArray, List.set_cons_succ, List.set_cons_zero]
  refine takeH 4 (some 41) (.pointer (some ⟨v, 0, none⟩)) rfl rfl (by kernel_rfl) (by kernel_rfl) (by kernel_rfl) (fun _ _ _ h => h) rfl (fun wq hS => by go_simp) HSd.out ?_
  try simp only [Act.put, List.setIfInBounds_toArray, List.set_cons_succ, List.set_cons_zero]
  refine takeH 5 (some 42) (.int .i64 a1.seg) rfl rfl (by kernel_rfl) (by kernel_rfl) (by kernel_rfl) (fun _ _ _ h => h) rfl (fun wq hS => by have q := (HV4.out.below hS HV4.out.lt).cell (i := 0) rfl; go_simp) HSd.out ?_
  try simp only [Act.put, List.setIfInBounds_toArray, List.set_cons_succ, List.set_cons_zero]
  refine takeH 7 (some 44) (.pointer (some ⟨v, 1, none⟩)) rfl rfl (by kernel_rfl) (by kernel_rfl) (by kernel_rfl) (fun _ _ _ h => h) rfl (fun wq hS => by go_simp) HSd.out ?_
  try simp only [Act.put, List.setIfInBounds_toArray, List.set_cons_succ, List.set_cons_zero]
  refine takeH 8 (some 45) (.int .i64 a1.off) rfl rfl (by kernel_rfl) (by kernel_rfl) (by kernel_rfl) (fun _ _ _ h => h) rfl (fun wq hS => by have q := (HV4.out.below hS HV4.out.lt).cell (i := 1) rfl; go_simp) HSd.out ?_
  try simp only [Act.put, List.setIfInBounds_toArray, List.set_cons_succ, List.set_cons_zero]
  refine oneH 6 (by kernel_rfl) rfl rfl fun K hK => ?_
  go_simp
  refine (Pl.seg_in g HGO.out a1.seg HSEG.out _).mono ?_
  rintro e w5 ⟨rfl, hb⟩
  have HS5 := Lib.hid (stay HSd.out hb)
  refine hK _ _ HS5.out ?_
  clear hK K hb
  try simp only [Act.put, List.setIfInBounds_toArray, List.set_cons_succ, List.set_cons_zero]
  refine takeH 9 (some 46) (.int .i64 (f : Int)) rfl rfl (by kernel_rfl) (by kernel_rfl) (by kernel_rfl) (fun _ _ _ h => h) rfl (fun wq hS => by have q := gw.out; go_simp) HS5.out ?_
  try simp only [Act.put, List.setIfInBounds_toArray, List.set_cons_succ, List.set_cons_zero]
  refine takeH 10 (some 10) (.int .i64 (f : Int)) rfl rfl (by kernel_rfl) (by kernel_rfl) (by kernel_rfl) (fun _ _ _ h => h) rfl (fun wq hS => by go_simp) HS5.out ?_
  try simp only [Act.put, List.setIfInBounds_toArray, List.set_cons_succ, List.set_cons_zero]
  refine wpAnyH_done (by kernel_rfl) ?_ _
  have HV5 := Lib.hid (HV4.out.below HS5.out HV4.out.lt)
  have HT5 := Lib.hid (HT4.out.below HS5.out)
  have HR5 := Lib.hid (HR4.out.below HS5.out)
  have HJ5 := Lib.hid (HJ.out.below HT5.out.b)
  clear HV4 HT4 HR4 HJ4 HSd HS5
  go_upto_region 10 with fail
  refine wp_region_lit ?_
  refine takeL (.pointer (some ⟨jb, 0, none⟩)) rfl (by go_simp) ?_
  try simp only [Act.put, List.setIfInBounds_toArray, List.set_cons_succ, List.set_cons_zero]
  refine takeL (.int .i64 (f : Int)) rfl (by go_simp) ?_
  try simp only [Act.put, List.setIfInBounds_toArray, List.set_cons_succ, List.set_cons_zero]
  refine takeL (.slice a7 k c7') rfl (by go_simp) ?_
  try simp only [Act.put, List.setIfInBounds_toArray, List.set_cons_succ, List.set_cons_zero]
  refine wpList_op rfl fun K hK => ?_
  go_simp
  refine (jwrite_any HJ5.out HV.out f (lay2 a.seq L).1 _ HT5.out.s.secs (OwnS.far (w' := w5) HT5.out.s HSZ.out) (by rw [HK.out]; exact HFB.out.1) HFB.out.2.1 (by rw [HK.out]; exact HFB.out.2.2.1) (by rw [HK.out]; exact HFB.out.2.2.2)).mono ?_
  rintro e w6 ⟨wv, F', rfl, he, hj, ho, hn⟩
  have HO6 : Hid (Only F w w6) := Lib.hid ((Only.of_below (S := F) HT5.out.b).then ho (fun j hj => .inl hj))
  have HN6 : Hid (∀ j, F' j → F j ∨ w.heap.size ≤ j) := Lib.hid fun j hj => (hn j hj).imp id fun h2 => Nat.le_trans HT5.out.b.size h2
  have HVF : Hid (¬ F v) := Lib.hid fun hF => by have := HSZ.out v hF; have := HVL.out; omega
  have HNV : Hid (¬ F' v) := Lib.hid fun hF => by
    rcases hn v hF with h1 | h1
    · exact HVF.out h1
    · have := HV5.out.lt; omega
  have HJ6 := Lib.hid hj
  have HV6 := Lib.hid (HV5.out.only ho HVF.out)
  have HR6 := Lib.hid (HR5.out.onlyF ho fun b' o n c e => by
    obtain ⟨o2, n2, c2, e2⟩ := HR.out.src b' o n c e
    exact (HJ.out.sep b' o2 n2 c2 e2).2.2.1)
  have HA6 := Lib.hid (HT5.out.a.ints.onlyF ho fun b' o n c e hF => by
    have := HT5.out.a.lt b' (by rw [e]; rfl)
    have := HSZ.out b' hF
    omega)
  have HFAR : Hid (∀ b' o n c, Value.slice a8 n8 c8' = .slice (some ⟨b', o, none⟩) n c → w.heap.size ≤ b' ∧ ¬ b' = v) := Lib.hid fun b' o n c e => by
    have h1 := HTV.out b' (by rw [e]; rfl)
    exact ⟨h1.1, by omega⟩
  clear hj ho hn HV5 HR5 HT5 HJ5
  rcases he with ⟨hw, rfl⟩ | ⟨hw, hf⟩
  · have HW := Lib.hid hw
    clear hw
    refine hK _ _ ?_
    clear hK K
    try simp only [Act.put, List.setIfInBounds_toArray, List.set_cons_succ, List.set_cons_zero]
    refine takeL (.nilIface) rfl (by go_simp) ?_
    try simp only [Act.put, List.setIfInBounds_toArray, List.set_cons_succ, List.set_cons_zero]
    refine wpList_nil ?_
    go_upto_region 13 with fail
    refine wp_region_lit ?_
    refine takeL (.pointer (some ⟨v, 1, none⟩)) rfl (by go_simp) ?_
    try simp only [Act.put, List.setIfInBounds_toArray, List.set_cons_succ, List.set_cons_zero]
    refine takeL (.int .i64 a1.off) rfl (by have q := HV6.out.cell (i := 1) rfl; go_simp) ?_
    try simp only [Act.put, List.setIfInBounds_toArray, List.set_cons_succ, List.set_cons_zero]
    refine takeL (.slice a7 k c7') rfl (by go_simp) ?_
    try simp only [Act.put, List.setIfInBounds_toArray, List.set_cons_succ, List.set_cons_zero]
    refine takeL (.int .i64 k) rfl (by go_simp) ?_
    try simp only [Act.put, List.setIfInBounds_toArray, List.set_cons_succ, List.set_cons_zero]
    refine takeL (.int .i64 (a1.off + (k : Int))) rfl (by have q := gw2.out; go_simp) ?_
    try simp only [Act.put, List.setIfInBounds_toArray, List.set_cons_succ, List.set_cons_zero]
    refine takeL (.pointer (some ⟨v, 1, none⟩)) rfl (by go_simp) ?_
    try simp only [Act.put, List.setIfInBounds_toArray, List.set_cons_succ, List.set_cons_zero]
    refine skipL (w6.setCell ⟨v, 1, none⟩ (.int .i64 (a1.off + (k : Int)))) rfl (by have q := HV6.out.cell (i := 1) rfl; have fz := HV6.out.frozen 1; go_simp) ?_
    have HV7 := Lib.hid (HV6.out.set 1 (.int .i64 (a1.off + (k : Int))))
    have HO7 : Hid (Only (fun k => k = v) w6 (w6.setCell ⟨v, 1, none⟩ (.int .i64 (a1.off + (k : Int))))) := Lib.hid ((Only.refl (fun k => k = v) w6).setCell (p := ⟨v, 1, none⟩) (.inl rfl) _)
    generalize w6.setCell ⟨v, 1, none⟩ (.int .i64 (a1.off + (k : Int))) = w7 at *
    try simp only [Act.put, List.setIfInBounds_toArray, List.set_cons_succ, List.set_cons_zero]
    refine wpList_nil ?_
    go_upto_region 14 with fail
    go_cut [67] from 61 to 67 (fun s wx => s = .pointer (some ⟨v, 2, none⟩) ∧ Blk wx v [.int .i64 a1.seg, .int .i64 (a1.off + (k : Int)), .int .u32 ((a.seq + q) % M32), .slice ta n9 tc] ∧ Only (fun k => k = v) w7 wx)
    case first =>
      refine startH (fun wq => Only (fun k => k = v) w7 wq) (by kernel_rfl) ?_
      have HSd : Hid (Only (fun k => k = v) w7 w7.drew) := Lib.hid (Only.refl _ _).drew
      have HVd := Lib.hid HV7.out.drew
      have HIW : Hid (∀ wq, Only (fun k => k = v) w7 wq → ItemsAt wq (.slice sa m sc) l) := Lib.hid fun wq hS => HIT.out wq (HO6.out.then (HO7.out.trans hS) (fun j hj => .inr (by rw [hj]; exact HVL.out)))
      generalize w7.drew = wS at *
      refine takeH 0 (some 61) (.pointer (some ⟨v, 2, none⟩)) rfl rfl (by kernel_rfl) (by kernel_rfl) (by kernel_rfl) (fun _ _ _ h => h) rfl (fun wq hS => by go_simp) HSd.out ?_
      try simp only [Act.put, List.setIfInBounds_toArray, List.set_cons_succ, List.set_cons_zero]
      refine takeH 2 (some 63) (.slice sa m sc) rfl rfl (by kernel_rfl) (by kernel_rfl) (by kernel_rfl) (fun _ _ _ h => h) rfl (fun wq hS => by go_simp) HSd.out ?_
      try simp only [Act.put, List.setIfInBounds_toArray, List.set_cons_succ, List.set_cons_zero]
      refine twoH 1 3 (by kernel_rfl) rfl rfl rfl rfl (fun K hK => ?_) (fun K hK => ?_)
      · refine wp_runTo (some 62) rfl (.int .u32 a.seq) wS (by have hq := HVd.out.cell (i := 2) rfl; go_simp) ?_
        refine hK _ _ HSd.out ?_
        clear hK K
        try simp only [Act.put, List.setIfInBounds_toArray, List.set_cons_succ, List.set_cons_zero]
        refine oneH 3 (by kernel_rfl) rfl rfl fun K hK => ?_
        go_simp
        refine (HPG.out _ (HIW.out _ HSd.out)).mono ?_
        rintro e wT ⟨rfl, hb⟩
        have HST : Hid (Only (fun k => k = v) w7 wT) := Lib.hid (HSd.out.trans (Only.of_below hb))
        have HVT := Lib.hid (HVd.out.below hb HVd.out.lt)
        refine hK _ _ HST.out ?_
        clear hK K hb
        try simp only [Act.put, List.setIfInBounds_toArray, List.set_cons_succ, List.set_cons_zero]
        refine takeH 4 (some 65) (.int .u32 q) rfl rfl (by kernel_rfl) (by kernel_rfl) (by kernel_rfl) (fun _ _ _ h => h) rfl (fun wq hS => by have z := gw3.out; go_simp) HST.out ?_
        try simp only [Act.put, List.setIfInBounds_toArray, List.set_cons_succ, List.set_cons_zero]
        refine takeH 5 (some 66) (.int .u32 ((a.seq + q) % M32)) rfl rfl (by kernel_rfl) (by kernel_rfl) (by kernel_rfl) (fun _ _ _ h => h) rfl (fun wq hS => by have z := gw4.out; go_simp) HST.out ?_
        try simp only [Act.put, List.setIfInBounds_toArray, List.set_cons_succ, List.set_cons_zero]
        refine takeH 6 (some 67) (.pointer (some ⟨v, 2, none⟩)) rfl rfl (by kernel_rfl) (by kernel_rfl) (by kernel_rfl) (fun _ _ _ h => h) rfl (fun wq hS => by go_simp) HST.out ?_
        try simp only [Act.put, List.setIfInBounds_toArray, List.set_cons_succ, List.set_cons_zero]
        refine oneH 7 (by kernel_rfl) rfl rfl fun K hK => ?_
        refine swp_skipTo none rfl (wT.setCell ⟨v, 2, none⟩ (.int .u32 ((a.seq + q) % M32))) (by have hq := HVT.out.cell (i := 2) rfl; have hf := HVT.out.frozen 2; go_simp) ?_
        have HSe : Hid (Only (fun k => k = v) w7 (wT.setCell ⟨v, 2, none⟩ (.int .u32 ((a.seq + q) % M32)))) := Lib.hid (HST.out.setCell (p := ⟨v, 2, none⟩) (.inl rfl) _)
        have HVe := Lib.hid (HVT.out.set 2 (.int .u32 ((a.seq + q) % M32)))
        refine hK _ _ HSe.out ?_
        clear hK K
        generalize wT.setCell ⟨v, 2, none⟩ (.int .u32 ((a.seq + q) % M32)) = wU at *
        try simp only [Act.put, List.setIfInBounds_toArray, List.set_cons_succ, List.set_cons_zero]
        refine wpAnyH_done (by kernel_rfl) ?_ _
        go_wp2_with fail
        go_meet
        exact ⟨rfl, HVe.out, HSe.out⟩
      · go_simp
        refine (HPG.out _ (HIW.out _ HSd.out)).mono ?_
        rintro e wT ⟨rfl, hb⟩
        have HST : Hid (Only (fun k => k = v) w7 wT) := Lib.hid (HSd.out.trans (Only.of_below hb))
        have HVT := Lib.hid (HVd.out.below hb HVd.out.lt)
        refine hK _ _ HST.out ?_
        clear hK K hb
        try simp only [Act.put, List.setIfInBounds_toArray, List.set_cons_succ, List.set_cons_zero]
        refine takeH 4 (some 65) (.int .u32 q) rfl rfl (by kernel_rfl) (by kernel_rfl) (by kernel_rfl) (fun _ _ _ h => h) rfl (fun wq hS => by have z := gw3.out; go_simp) HST.out ?_
        try simp only [Act.put, List.setIfInBounds_toArray, List.set_cons_succ, List.set_cons_zero]
        refine oneH 1 (by kernel_rfl) rfl rfl fun K hK => ?_
        refine wp_runTo (some 62) rfl (.int .u32 a.seq) wT (by have hq := HVT.out.cell (i := 2) rfl; go_simp) ?_
        refine hK _ _ HST.out ?_
        clear hK K
        try simp only [Act.put, List.setIfInBounds_toArray, List.set_cons_succ, List.set_cons_zero]
        refine takeH 5 (some 66) (.int .u32 ((a.seq + q) % M32)) rfl rfl (by kernel_rfl) (by kernel_rfl) (by kernel_rfl) (fun _ _ _ h => h) rfl (fun wq hS => by have z := gw4.out; go_simp) HST.out ?_
        try simp only [Act.put, List.setIfInBounds_toArray, List.set_cons_succ, List.set_cons_zero]
        refine takeH 6 (some 67) (.pointer (some ⟨v, 2, none⟩)) rfl rfl (by kernel_rfl) (by kernel_rfl) (by kernel_rfl) (fun _ _ _ h => h) rfl (fun wq hS => by go_simp) HST.out ?_
        try simp only [Act.put, List.setIfInBounds_toArray, List.set_cons_succ, List.set_cons_zero]
        refine oneH 7 (by kernel_rfl) rfl rfl fun K hK => ?_
        refine swp_skipTo none rfl (wT.setCell ⟨v, 2, none⟩ (.int .u32 ((a.seq + q) % M32))) (by have hq := HVT.out.cell (i := 2) rfl; have hf := HVT.out.frozen 2; go_simp) ?_
        have HSe : Hid (Only (fun k => k = v) w7 (wT.setCell ⟨v, 2, none⟩ (.int .u32 ((a.seq + q) % M32)))) := Lib.hid (HST.out.setCell (p := ⟨v, 2, none⟩) (.inl rfl) _)
        have HVe := Lib.hid (HVT.out.set 2 (.int .u32 ((a.seq + q) % M32)))
        refine hK _ _ HSe.out ?_
        clear hK K
        generalize wT.setCell ⟨v, 2, none⟩ (.int .u32 ((a.seq + q) % M32)) = wU at *
        try simp only [Act.put, List.setIfInBounds_toArray, List.set_cons_succ, List.set_cons_zero]
        refine wpAnyH_done (by kernel_rfl) ?_ _
        go_wp2_with fail
        go_meet
        exact ⟨rfl, HVe.out, HSe.out⟩
    case rest =>
      obtain ⟨rfl, hv, ho⟩ := hcut
      have HV9 := Lib.hid hv
      have HO9 := Lib.hid (HO7.out.trans ho)
      have HVJ : Hid (¬ jb = v) := Lib.hid (by have := HJL.out; have := HVL.out; omega)
      have HJB := Lib.hid (HJ6.out.blk.only HO9.out HVJ.out)
      clear hv ho HV6 HV7 HO7
      go_upto_region 15 with fail
      refine wp_region_lit ?_
      refine takeL (.pointer (some ⟨jb, 0, none⟩)) rfl (by go_simp) ?_
      try simp only [Act.put, List.setIfInBounds_toArray, List.set_cons_succ, List.set_cons_zero]
      refine takeL (.agg #[.int .i64 a1.seg, .int .i64 (a1.off + (k : Int)), .int .u32 ((a.seq + q) % M32), .slice ta n9 tc]) rfl (by have q0 := HV9.out.cell (i := 0) rfl; have q1 := HV9.out.cell (i := 1) rfl; have q2 := HV9.out.cell (i := 2) rfl; have q3 := HV9.out.cell (i := 3) rfl; go_simp) ?_
      try simp only [Act.put, List.setIfInBounds_toArray, List.set_cons_succ, List.set_cons_zero]
      refine takeL (.pointer (some ⟨jb, 0, none⟩)) rfl (by go_simp) ?_
      try simp only [Act.put, List.setIfInBounds_toArray, List.set_cons_succ, List.set_cons_zero]
      refine takeL (.pointer (some ⟨jb, 5, none⟩)) rfl (by go_simp) ?_
      try simp only [Act.put, List.setIfInBounds_toArray, List.set_cons_succ, List.set_cons_zero]
      refine store_g (g := jb) (off := 5) (cs := #[.int .i64 a1.seg, .int .i64 (a1.off + (k : Int)), .int .u32 ((a.seq + q) % M32), .slice ta n9 tc]) HJB.out info40 (by simp) (at_one _ _ _ _ _ _) rfl rfl rfl ?_
      intro wB hD hO hlD
      try simp only [Act.put, List.setIfInBounds_toArray, List.set_cons_succ, List.set_cons_zero]
      have HOB : Hid (Only (fun k => k = v ∨ k = jb) w6 wB) := Lib.hid ((HO9.out.more fun j _ hj => .inl hj).trans (hO.more fun j _ hj => .inr hj))
      have HSRC : Hid (∀ b' o n c, Value.slice ta n9 tc = .slice (some ⟨b', o, none⟩) n c → W.heap.size ≤ b' ∧ b' ≠ jb ∧ ¬ F b' ∧ b' < w.heap.size) := Lib.hid fun b' o n c e => by
        obtain ⟨o2, n2, c2, e2⟩ := HR.out.src b' o n c e
        exact HJ.out.sep b' o2 n2 c2 e2
      have HTB := Lib.hid (HJ6.out.turnS (a' := ⟨a1.seg, a1.off + (k : Int), (a.seq + q) % M32, a1.free⟩) HOB.out
        (fun j hj => hj.elim (fun e => by rw [e]; exact Nat.le_trans HWZ.out HVL.out) fun e => by rw [e]; exact HJ.out.lo)
        (fun j hF hj => hj.elim (fun e => HNV.out (e ▸ hF)) fun e => HJ6.out.nF (e ▸ hF))
        (by simpa [splice] using hD)
        (HR6.out.onlyF HOB.out fun b' o n c e hj => by
          obtain ⟨h1, h2, h3, h4⟩ := HSRC.out b' o n c e
          rcases hj with hj | hj
          · have := HVL.out; omega
          · exact h2 hj)
        (fun b' o n c e => by
          obtain ⟨h1, h2, h3, h4⟩ := HSRC.out b' o n c e
          refine ⟨h1, h2, fun hF => ?_, ?_⟩
          · rcases HN6.out b' hF with h5 | h5
            · exact h3 h5
            · omega
          · have := HO6.out.size; have := HOB.out.size; omega)
        (HNG.out _) (seq_mod _) HR.out.cp)
      have HAB := Lib.hid (HA6.out.onlyF HOB.out fun b' o n c e hj => by
        have h1 := HFAR.out b' o n c e
        rcases hj with hj | hj
        · exact h1.2 hj
        · have := HJL.out; omega)
      clear hD hO hlD
      refine wpList_nil ?_
      go_upto_region 16 with fail
      refine wp_region_lit ?_
      refine takeL (.int .i64 (f : Int)) rfl (by go_simp) ?_
      try simp only [Act.put, List.setIfInBounds_toArray, List.set_cons_succ, List.set_cons_zero]
      refine takeL (.slice a8 n8 c8') rfl (by go_simp) ?_
      try simp only [Act.put, List.setIfInBounds_toArray, List.set_cons_succ, List.set_cons_zero]
      refine wpList_op rfl fun K hK => ?_
      go_simp
      refine (places_any f (lay2 a.seq L).2 _ _ HAB.out HPL.out (by have := HFB.out; omega) HPM.out).mono ?_
      rintro e wC ⟨pv, rfl, hown, hb⟩
      have HOW := Lib.hid (hown.mono (show w.heap.size ≤ wB.heap.size by have := HO6.out.size; have := HOB.out.size; omega))
      have HTC := Lib.hid (HTB.out.below hb)
      have HPA : Hid (∀ k, pv.ownBlock = some k → ¬ F' k ∧ k ≠ jb) := Lib.hid fun k hk => by
        have h1 := (hown.lt k hk).1
        have h2 := HOB.out.size
        have h3 := HO6.out.size
        have h4 := HJL.out
        exact ⟨fun hF => by have := (HJ6.out.dv.lt k hF).2; omega, by omega⟩
      have HOC : Hid (Only (fun k => F k ∨ k = jb) w wC) := Lib.hid ((((HO6.out.more fun j _ hj => .inl hj).then HOB.out fun j hj => by
        rcases hj with rfl | rfl
        · exact .inr HVL.out
        · exact .inl (.inr rfl))).trans (Only.of_below hb))
      obtain ⟨pa, pc, hpv⟩ := hown.ints.form
      obtain ⟨pn, hpn⟩ : ∃ n, ((lay2 a.seq L).2.map (plOf f)).length = n := ⟨_, rfl⟩
      rw [hpn] at hpv
      subst hpv
      clear hown hb hpn
      refine hK _ _ ?_
      clear hK K
      try simp only [Act.put, List.setIfInBounds_toArray, List.set_cons_succ, List.set_cons_zero]
      refine takeL (.slice pa pn pc) rfl (by go_simp) ?_
      try simp only [Act.put, List.setIfInBounds_toArray, List.set_cons_succ, List.set_cons_zero]
      refine takeL (.nilIface) rfl (by go_simp) ?_
      try simp only [Act.put, List.setIfInBounds_toArray, List.set_cons_succ, List.set_cons_zero]
      refine wpList_nil ?_
      go_wp2_with fail
      first | go_ret2 | go_ret
      refine ⟨_, _, rfl, ?_⟩
      rw [HOK.out HW.out]
      exact ⟨F', _, .inl ⟨rfl, rfl⟩, HOW.out, HTC.out, HOC.out, HN6.out, HPA.out, HR.out.src⟩
  · have HW := Lib.hid hw
    have HF6 := Lib.hid hf
    obtain ⟨T, dd, hv⟩ := hf.shape
    subst hv
    clear hw hf
    refine hK _ _ ?_
    clear hK K
    try simp only [Act.put, List.setIfInBounds_toArray, List.set_cons_succ, List.set_cons_zero]
    refine takeL (.iface T dd) rfl (by go_simp) ?_
    try simp only [Act.put, List.setIfInBounds_toArray, List.set_cons_succ, List.set_cons_zero]
    refine wpList_nil ?_
    go_wp2_with fail
    refine (HWF.out _ _ _ HF6.out).mono ?_
    rintro e w8 ⟨v2, rfl, hf, hb⟩
    have HJ8 := Lib.hid (HJ6.out.below hb)
    have HO8 : Hid (Only (fun k => F k ∨ k = jb) w w8) := Lib.hid ((HO6.out.more fun j _ hj => .inl hj).trans (Only.of_below hb))
    have HF8 := Lib.hid hf
    obtain ⟨T2, dd2, hv⟩ := hf.shape
    subst hv
    clear hf hb
    go_wp2_with fail
    first | go_ret2 | go_ret
    refine ⟨_, _, rfl, ?_⟩
    rw [HNO.out HW.out]
    exact ⟨F', fv, .inr ⟨rfl, HF8.out⟩, OwnN.nil _ _, HJ8.out, HO8.out, HN6.out, (fun k hk => by cases hk), Src.refl _⟩
end

end Go.Proofs.YthlnmdihdcfphaaGreatDoor
