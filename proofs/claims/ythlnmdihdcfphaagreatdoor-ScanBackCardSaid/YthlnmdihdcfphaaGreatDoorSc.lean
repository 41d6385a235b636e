/- Package scan: next. -/
import Derived.Test.YthlnmdihdcfphaaGreatDoorSb
import Derived.Test.YthlnmdihdcfphaaGreatDoorIs
namespace Go.Proofs.YthlnmdihdcfphaaGreatDoor
set_option linter.unusedSimpArgs false
set_option linter.unusedVariables false
open Go.RowKit

/-- What next hands back: where there is none; where there is one. -/
def NxOut (B : Nat) (g : Pl.Gm) (a : Ja) (fv : Value) (r : Option (List It × Ja)) (e : Ending) (w' : World) : Prop :=
  (r = none ∧ ∃ v, e = .returned (.tuple #[.agg #[.slice none 0 0, .slice none 0 0], .agg #[.int .i64 0, .int .i64 0, .int .u32 0, .slice none 0 0], v]) ∧ Fault w' 17 v) ∨
  ∃ l b1 ia n1 c1 aa n2 c2 pl fq fn fc, r = some (l, b1) ∧ e = .returned (.tuple #[.agg #[.slice ia n1 c1, .slice aa n2 c2], .agg #[.int .i64 b1.seg, .int .i64 (b1.off + (lay2 a.seq l).1.length), .int .u32 ((a.seq + partsN l) % M32), .slice fq fn fc], .nilIface]) ∧ pl.map (·.1) = l ∧ ItemsAt w' (.slice ia n1 c1) pl ∧ IntsAt w' (.slice aa n2 c2) (pOf g a b1 l) ∧ IntsAt w' (.slice fq fn fc) b1.free ∧ fn ≤ fc ∧
    (∀ b' o, fq = some ⟨b', o, none⟩ → ∃ o2 n c, fv = .slice (some ⟨b', o2, none⟩) n c) ∧ (∀ j, Value.ownBlock (.slice aa n2 c2) = some j → B ≤ j) ∧ Fresh B (.slice ia n1 c1) ∧ ∀ x ∈ pl, Fresh B x.2
theorem Fm.other {w wx wy : World} {gB aB rB tB x : Nat} {g : Pl.Gm} {A R T : List Value} (h : Fm w wx gB aB rB tB g A R T) (ho : Only (fun k => k = x) wx wy) (hx : tB < x) : Fm w wy gB aB rB tB g A R T := by
  obtain ⟨l1, l2, l3, l4, l5⟩ := h.lt
  exact ⟨h.gb.only ho (by omega), h.ab.only ho (by omega), h.rb.only ho (by omega), h.tb.only ho (by omega), h.bel.trans (ho.below h.bel.size fun k hk => by omega), l1, l2, l3, l4, Nat.lt_of_lt_of_le l5 ho.size⟩
section
variable {W w : World} {b : Nat} {F : Nat → Prop} {d : De.D} {g : Pl.Gm} {a : Ja} {fv : Value}
set_option maxRecDepth 100000 in
set_option maxHeartbeats 4000000 in
theorem next_any {X : List (List Int)} (h : De.Dv W w b F d) (hX : Img d X) (hLn : d.L.length ≤ 1000000) (hbig : X.length ≤ 1024) (hg : a.good g = true) (hq : Seq32 a.seq) (ht : 4 + g.s * g.l ≤ (X.length : Int)) (hf : IntsAt w fv a.free) (hcap : ∀ q n c, fv = .slice q n c → n ≤ c) (hfo : ∀ b' o n c, fv = .slice (some ⟨b', o, none⟩) n c → b' < w.heap.size) :
    Calls Tryz.prog 31 #[.pointer (some ⟨b, 0, none⟩), g.v, .agg #[.int .i64 a.seg, .int .i64 a.off, .int .u32 a.seq, fv]] w fun e w' => NxOut w.heap.size g a fv (nxt X g a) e w' ∧ Below w.heap.size w w' := by
  have HGA : Hid (∀ w', Below w.heap.size w w' → Calls Tryz.prog 49 #[.pointer (some ⟨b, 0, none⟩), g.v, .agg #[.int .i64 a.seg, .int .i64 a.off, .int .u32 a.seq, fv]] w' fun e w'' => GrOut w'.heap.size g a fv (gAt X g a) e w'' ∧ Below w'.heap.size w' w'') := Lib.hid fun w' hb => groupAt_any (h.below hb) hX hLn hbig hg hq ht (hf.below hb)
  have HGF : Hid (∀ f r, a.free = f :: r → ∀ w' fw, Below w.heap.size w w' → IntsAt w' fw r → Calls Tryz.prog 49 #[.pointer (some ⟨b, 0, none⟩), g.v, .agg #[.int .i64 f, .int .i64 0, .int .u32 a.seq, fw]] w' fun e w'' => GrOut w'.heap.size g ⟨f, 0, a.seq, r⟩ fw (gAt X g ⟨f, 0, a.seq, r⟩) e w'' ∧ Below w'.heap.size w' w'') := Lib.hid fun f r e w' fw hb hi => groupAt_any (a := ⟨f, 0, a.seq, r⟩) (h.below hb) hX hLn hbig (good_free hg e) hq ht hi
  have HF0 := Lib.hid hf
  have hfew := Ja.few hg
  obtain ⟨fa, fc, hfv⟩ := hf.form
  obtain ⟨m, hm⟩ : ∃ m, a.free.length = m := ⟨_, rfl⟩
  rw [hm] at hfv hfew
  subst hfv
  have HMN := Lib.hid hm
  have HCP := Lib.hid (hcap _ _ _ rfl)
  have HFB : Hid (∀ b' o n c, Value.slice fa m fc = .slice (some ⟨b', o, none⟩) n c → b' < w.heap.size) := Lib.hid hfo
  clear h hX hLn hbig hq ht hf hcap hfo hm
  go_enter Tryz.func31, Tryz.ntmps31
  go_upto_region 0 with fail
  refine wp_region_lit ?_
  refine box_g (cs := #[.int .i64 g.p, .int .i64 g.s, .int .i64 g.l, .int .i64 g.f]) rfl rfl ?_
  intro w1 hG hb1 hl1
  try simp only [Act.put, List.setIfInBounds_toArray, List.set_cons_succ, List.set_cons_zero]
  refine box_g (cs := #[.int .i64 a.seg, .int .i64 a.off, .int .u32 a.seq, .slice fa m fc]) rfl rfl ?_
  intro w2 hA hb2 hl2
  try simp only [Act.put, List.setIfInBounds_toArray, List.set_cons_succ, List.set_cons_zero]
  refine alloc_g zero55 rfl ?_
  intro w3 hR hb3 hl3
  try simp only [Act.put, List.setIfInBounds_toArray, List.set_cons_succ, List.set_cons_zero]
  refine alloc_g zero40 rfl ?_
  intro w4 hT hb4 hl4
  try simp only [Act.put, List.setIfInBounds_toArray, List.set_cons_succ, List.set_cons_zero]
  obtain ⟨gB, hgB⟩ : ∃ k, w.heap.size = k := ⟨_, rfl⟩
  have HM : Hid (Fm w w4 gB w1.heap.size w2.heap.size w3.heap.size g [.int .i64 a.seg, .int .i64 a.off, .int .u32 a.seq, .slice fa m fc] [.slice none 0 0, .slice none 0 0] [.int .i64 0, .int .i64 0, .int .u32 0, .slice none 0 0]) := Lib.hid (by
    rw [← hgB]
    have b3 := hb3.trans (hb4.mono hb3.size)
    have b2 := hb2.trans (b3.mono hb2.size)
    exact ⟨hG.below b2 hG.lt, hA.below b3 hA.lt, hR.below hb4 hR.lt, hT, hb1.trans (b2.mono hb1.size), Nat.le_refl _, hl1, hl2, hl3, hl4⟩)
  clear hG hb1 hl1 hA hb2 hl2 hR hb3 hl3 hT hb4 hl4
  rw [hgB]
  have HGB := Lib.hid hgB
  clear hgB
  generalize w1.heap.size = aB at *
  generalize w2.heap.size = rB at *
  generalize w3.heap.size = tB at *
  refine takeL (.nilIface) rfl (by go_simp) ?_
  try simp only [Act.put, List.setIfInBounds_toArray, List.set_cons_succ, List.set_cons_zero]
  refine wpList_nil ?_
  go_upto_region 1 with fail
  refine wp_region_lit ?_
  refine takeL (.pointer (some ⟨b, 0, none⟩)) rfl (by go_simp) ?_
  try simp only [Act.put, List.setIfInBounds_toArray, List.set_cons_succ, List.set_cons_zero]
  refine takeL (.agg #[.int .i64 g.p, .int .i64 g.s, .int .i64 g.l, .int .i64 g.f]) rfl (by have q := HM.out.gb; have q0 := q.cell (i := 0) rfl; have q1 := q.cell (i := 1) rfl; have q2 := q.cell (i := 2) rfl; have q3 := q.cell (i := 3) rfl; go_simp) ?_
  try simp only [Act.put, List.setIfInBounds_toArray, List.set_cons_succ, List.set_cons_zero]
  refine takeL (.agg #[.int .i64 a.seg, .int .i64 a.off, .int .u32 a.seq, .slice fa m fc]) rfl (by have q := HM.out.ab; have q0 := q.cell (i := 0) rfl; have q1 := q.cell (i := 1) rfl; have q2 := q.cell (i := 2) rfl; have q3 := q.cell (i := 3) rfl; go_simp) ?_
  try simp only [Act.put, List.setIfInBounds_toArray, List.set_cons_succ, List.set_cons_zero]
  refine wpList_op rfl fun K hK => ?_
  go_simp
  refine (HGA.out w4 HM.out.bel).mono ?_
  rintro e w5 ⟨ho, hb⟩
  have HM5 := Lib.hid (HM.out.below hb)
  have HT5 : Hid (tB < w4.heap.size ∧ w4.heap.size ≤ w5.heap.size) := Lib.hid ⟨HM.out.lt.2.2.2.2, hb.size⟩
  clear hb HM HGA
  rcases ho with ⟨hr, v, rfl, hf⟩ | ⟨l, ia, n1, c1, aa, n2, c2, pl, hr, rfl, hpl, hi, hp, hpb, hff⟩
  · have HR := Lib.hid hr
    obtain ⟨T, dd, hv⟩ := hf.shape
    subst hv
    have HF5 := Lib.hid hf
    clear hf hr
    refine hK _ _ ?_
    clear hK K
    try simp only [Act.put, List.setIfInBounds_toArray, List.set_cons_succ, List.set_cons_zero]
    refine takeL (.tuple #[.agg #[.slice none 0 0, .slice none 0 0], .agg #[.int .i64 0, .int .i64 0, .int .u32 0, .slice none 0 0], .iface T dd]) rfl (by go_simp) ?_
    try simp only [Act.put, List.setIfInBounds_toArray, List.set_cons_succ, List.set_cons_zero]
    refine takeL (.agg #[.slice none 0 0, .slice none 0 0]) rfl (by go_simp) ?_
    try simp only [Act.put, List.setIfInBounds_toArray, List.set_cons_succ, List.set_cons_zero]
    refine takeL (.agg #[.int .i64 0, .int .i64 0, .int .u32 0, .slice none 0 0]) rfl (by go_simp) ?_
    try simp only [Act.put, List.setIfInBounds_toArray, List.set_cons_succ, List.set_cons_zero]
    refine takeL (.iface T dd) rfl (by go_simp) ?_
    try simp only [Act.put, List.setIfInBounds_toArray, List.set_cons_succ, List.set_cons_zero]
    refine alloc_g zero55 rfl ?_
    intro w6 hx hb6 hl6
    try simp only [Act.put, List.setIfInBounds_toArray, List.set_cons_succ, List.set_cons_zero]
    refine alloc_g zero40 rfl ?_
    intro w7 he hb7 hl7
    try simp only [Act.put, List.setIfInBounds_toArray, List.set_cons_succ, List.set_cons_zero]
    have HM7 := Lib.hid ((HM5.out.below hb6).below hb7)
    have HF7 := Lib.hid ((HF5.out.below hb6).below hb7)
    have HX7 := Lib.hid (hx.below hb7 hx.lt)
    have HE7 := Lib.hid he
    have HL7 : Hid (w5.heap.size < w6.heap.size ∧ w6.heap.size < w7.heap.size) := Lib.hid ⟨hl6, hl7⟩
    clear hx hb6 hl6 he hb7 hl7 HM5 HF5
    refine store_all (cs := #[.slice none 0 0, .slice none 0 0]) HX7.out rfl info55 (gr_one none none 0 0 0 0) rfl rfl rfl ?_
    intro w8 hD hO hlD
    have HM8 := Lib.hid (HM7.out.other hO (by have h1 := HT5.out; omega))
    have HF8 := Lib.hid (HF7.out.onlyB hO HX7.out (fun t => by simp))
    have HX8 := Lib.hid hD
    have HE8 := Lib.hid (HE7.out.only hO (by have h1 := HL7.out; omega))
    clear hD hO hlD HM7 HF7 HX7 HE7
    try simp only [Act.put, List.setIfInBounds_toArray, List.set_cons_succ, List.set_cons_zero]
    refine store_all (cs := #[.int .i64 0, .int .i64 0, .int .u32 0, .slice none 0 0]) HE8.out rfl info40 (at_one _ _ _ _ _ _) rfl rfl rfl ?_
    intro w9 hD hO hlD
    have HM := Lib.hid (HM8.out.other hO (by have h1 := HT5.out; have h2 := HL7.out; omega))
    have HF := Lib.hid (HF8.out.onlyB hO HE8.out (fun t => by simp))
    have HXB := Lib.hid (HX8.out.only hO (by have h1 := HL7.out; omega))
    have HEB := Lib.hid hD
    have HLX : Hid (rB < tB ∧ tB < w5.heap.size ∧ w5.heap.size < w6.heap.size) := Lib.hid ⟨HM8.out.lt.2.2.2.1, by have h1 := HT5.out; omega, HL7.out.1⟩
    clear hD hO hlD HM8 HF8 HX8 HE8 HT5 HL7
    generalize w5.heap.size = xB at *
    generalize w6.heap.size = eB at *
    try simp only [Act.put, List.setIfInBounds_toArray, List.set_cons_succ, List.set_cons_zero]
    refine takeL (.iface T dd) rfl (by go_simp) ?_
    try simp only [Act.put, List.setIfInBounds_toArray, List.set_cons_succ, List.set_cons_zero]
    refine wpList_nil ?_
    obtain ⟨T', d', t', ts, hv, hc⟩ := id HF.out
    cases hv
    have HC := Lib.hid hc
    clear hc
    cases hfr : a.free with
    | nil =>
      have hm0 : m = 0 := by rw [← HMN.out, hfr]; rfl
      subst hm0
      have HNX : Hid (nxt X g a = none) := Lib.hid (by unfold nxt; rw [HR.out]; simp only [hfr])
      have q3 := HM.out.ab.cell (i := 3) rfl
      clear hfr
      go_wp2_with fail
      refine (is_num 17 17 true rfl _ T dd _ HC.out).mono ?_
      rintro e w10 ⟨rfl, hb⟩
      have HM2 := Lib.hid (HM.out.below hb)
      have HF2 := Lib.hid (HF.out.below hb)
      have HXB2 := Lib.hid (HXB.out.below hb HXB.out.lt)
      have HEB2 := Lib.hid (HEB.out.below hb HEB.out.lt)
      clear hb HM HF HXB HEB HC q3
      have HM := HM2
      have HF := HF2
      have HXB := HXB2
      have HEB := HEB2
      clear HM2 HF2 HXB2 HEB2
      have q3 := HM.out.ab.cell (i := 3) rfl
      go_upto_region 3 with fail
      refine startH (fun wq => Only (fun j => j = rB ∨ j = tB) w10 wq) (by kernel_rfl) ?_
      have HSd : Hid (Only (fun j => j = rB ∨ j = tB) w10 w10.drew) := Lib.hid (Only.refl _ _).drew
      have HXW : Hid (∀ wq, Only (fun j => j = rB ∨ j = tB) w10 wq → Blk wq xB [.slice none 0 0, .slice none 0 0]) := Lib.hid fun wq hS => HXB.out.only hS (by have h1 := HLX.out; omega)
      have HEW : Hid (∀ wq, Only (fun j => j = rB ∨ j = tB) w10 wq → Blk wq eB [.int .i64 0, .int .i64 0, .int .u32 0, .slice none 0 0]) := Lib.hid fun wq hS => HEB.out.only hS (by have h1 := HLX.out; omega)
      have HMd := Lib.hid (HM.out.below (Below.refl _ _).drew)
      have HFd := Lib.hid (HF.out.below (Below.refl _ _).drew)
      generalize w10.drew = wS at *
      refine takeH 0 (some 29) (.agg #[.slice none 0 0, .slice none 0 0]) rfl rfl (by kernel_rfl) (by kernel_rfl) (by kernel_rfl) (fun _ _ _ h => h) rfl (fun wq hS => by have q := HXW.out wq hS; have q0 := q.cell (i := 0) rfl; have q1 := q.cell (i := 1) rfl; go_simp) HSd.out ?_
      try simp only [Act.put, List.setIfInBounds_toArray, List.set_cons_succ, List.set_cons_zero]
      refine takeH 1 (some 30) (.agg #[.int .i64 0, .int .i64 0, .int .u32 0, .slice none 0 0]) rfl rfl (by kernel_rfl) (by kernel_rfl) (by kernel_rfl) (fun _ _ _ h => h) rfl (fun wq hS => by have q := HEW.out wq hS; have q0 := q.cell (i := 0) rfl; have q1 := q.cell (i := 1) rfl; have q2 := q.cell (i := 2) rfl; have q3 := q.cell (i := 3) rfl; go_simp) HSd.out ?_
      try simp only [Act.put, List.setIfInBounds_toArray, List.set_cons_succ, List.set_cons_zero]
      refine takeH 2 (some 31) (.iface T dd) rfl rfl (by kernel_rfl) (by kernel_rfl) (by kernel_rfl) (fun _ _ _ h => h) rfl (fun wq hS => by go_simp) HSd.out ?_
      try simp only [Act.put, List.setIfInBounds_toArray, List.set_cons_succ, List.set_cons_zero]
      refine oneH 3 (by kernel_rfl) rfl rfl fun K hK => ?_
      refine wp_store_all 55 _ _ rfl rB #[.slice none 0 0, .slice none 0 0] rfl rfl _ HMd.out.rb rfl info55 (gr_one _ _ _ _ _ _) ?_
      intro u10 hD hO
      have HS10 : Hid (Only (fun j => j = rB ∨ j = tB) w10 u10) := Lib.hid (HSd.out.trans (hO.more fun j _ hj => .inl hj))
      have HM10 := Lib.hid (HMd.out.setR hO hD)
      have HF10 := Lib.hid (HFd.out.onlyB hO HMd.out.rb (fun t => by simp))
      refine hK _ _ HS10.out ?_
      clear hK K hD hO
      try simp only [Act.put, List.setIfInBounds_toArray, List.set_cons_succ, List.set_cons_zero]
      refine oneH 4 (by kernel_rfl) rfl rfl fun K hK => ?_
      refine wp_store_all 40 _ _ rfl tB #[.int .i64 0, .int .i64 0, .int .u32 0, .slice none 0 0] rfl rfl _ HM10.out.tb rfl info40 (at_one _ _ _ _ _ _) ?_
      intro u11 hD hO
      have HS11 : Hid (Only (fun j => j = rB ∨ j = tB) w10 u11) := Lib.hid (HS10.out.trans (hO.more fun j _ hj => .inr hj))
      have HM11 := Lib.hid (HM10.out.setT hO hD)
      have HF11 := Lib.hid (HF10.out.onlyB hO HM10.out.tb (fun t => by simp))
      refine hK _ _ HS11.out ?_
      clear hK K hD hO
      try simp only [Act.put, List.setIfInBounds_toArray, List.set_cons_succ, List.set_cons_zero]
      refine takeH 5 (some 8) (.iface T dd) rfl rfl (by kernel_rfl) (by kernel_rfl) (by kernel_rfl) (fun _ _ _ h => h) rfl (fun wq hS => by go_simp) HS11.out ?_
      try simp only [Act.put, List.setIfInBounds_toArray, List.set_cons_succ, List.set_cons_zero]
      refine wpAnyH_done (by kernel_rfl) ?_ _
      go_wp2_with fail
      refine bodyPost_ret (v := .tuple #[.agg #[.slice none 0 0, .slice none 0 0], .agg #[.int .i64 0, .int .i64 0, .int .u32 0, .slice none 0 0], .iface T dd]) (results_cct rfl _ _ rB tB #[.slice none 0 0, .slice none 0 0] #[.int .i64 0, .int .i64 0, .int .u32 0, .slice none 0 0] _ _ (.iface T dd) rfl rfl rfl Tryz.underlying55 Tryz.underlying40 rfl rfl info55 info40 (HM11.out.rb.all rfl) (HM11.out.tb.all rfl)) rfl ⟨.inl ⟨HNX.out, _, rfl, HF11.out⟩, HGB.out ▸ HM11.out.bel⟩

    | cons f r =>
      have hm1 : m = r.length + 1 := by rw [← HMN.out, hfr]; rfl
      have HGN := Lib.hid (HGF.out f r hfr)
      obtain ⟨qb, qo, hfa, hq0⟩ : ∃ b o, fa = some ⟨b, o, none⟩ ∧ w.cell? ⟨b, o, none⟩ = some (.int .i64 f) := by
        obtain ⟨q', c', e, hc⟩ := HF0.out
        obtain ⟨b2, o2, h1, h2⟩ := hc 0 f (by rw [hfr]; rfl)
        cases e
        exact ⟨b2, o2, h1, h2⟩
      subst hfa
      have HQ := Lib.hid hq0
      have HQL := Lib.hid (block_lt_of_cell hq0)
      have HT : Hid (∀ w', Below w.heap.size w w' → IntsAt w' (.slice (cutA (some ⟨qb, qo, none⟩) 1 fc 1) (m - 1) (fc - 1)) r ∧ ∀ b o m' c, Value.slice (cutA (some ⟨qb, qo, none⟩) 1 fc 1) (m - 1) (fc - 1) = .slice (some ⟨b, o, none⟩) m' c → ∃ o2, (some ⟨qb, qo, none⟩ : Option Addr) = some ⟨b, o2, none⟩) := Lib.hid fun w' hb => IntsAt.tail (x := f) (r := r) (by have := HF0.out.below hb; rw [hfr] at this; exact this) HCP.out
      have HNX : Hid (nxt X g a = (gAt X g ⟨f, 0, a.seq, r⟩).map fun l => (l, ⟨f, 0, a.seq, r⟩)) := Lib.hid (by unfold nxt; rw [HR.out]; simp only [hfr])
      have hmz : ((m : Int) == 0) = false := by rw [beq_eq_false_iff_ne]; omega
      have hmp : (0 : Int) < (m : Int) := by omega
      have hmn : 1 ≤ m := by omega
      have q3 := HM.out.ab.cell (i := 3) rfl
      clear hfr hm1 hq0
      go_wp2_with fail
      refine (is_num 17 17 true rfl _ T dd _ HC.out).mono ?_
      rintro e w10 ⟨rfl, hb⟩
      have HM2 := Lib.hid (HM.out.below hb)
      clear hb HM HF HXB HEB HC q3 HGF
      have HM := HM2
      clear HM2
      have q3 := HM.out.ab.cell (i := 3) rfl
      go_upto_region 4 with fail
      clear q3
      go_cut [32] from 32 to 41 (fun s wx => Blk wx aB [.int .i64 f, .int .i64 0, .int .u32 a.seq, .slice (cutA (some ⟨qb, qo, none⟩) 1 fc 1) (m - 1) (fc - 1)] ∧ Only (fun k => k = aB) w10 wx)
      case first =>
        refine startH (fun wq => Only (fun k => k = aB) w10 wq) (by kernel_rfl) ?_
        have HSd : Hid (Only (fun k => k = aB) w10 w10.drew) := Lib.hid (Only.refl _ _).drew
        have HVd := Lib.hid HM.out.ab.drew
        have HQ3 : Hid (∀ wq, Only (fun k => k = aB) w10 wq → wq.cell? ⟨qb, qo, none⟩ = some (.int .i64 f)) := Lib.hid fun wq hS => hS.cellZ (a := ⟨qb, qo, none⟩) (by have h1 : qb < w.heap.size := HQL.out; have h2 := HM.out.lt; show ¬ qb = aB; omega) ((HM.out.bel.cell (p := ⟨qb, qo, none⟩) HQL.out).trans HQ.out)
        have HVL : Hid (Only (fun k => k = aB) w10 w10.drew) := HSd
        generalize w10.drew = wS at *
        refine takeH 0 (some 32) (.pointer (some ⟨aB, 3, none⟩)) rfl rfl (by kernel_rfl) (by kernel_rfl) (by kernel_rfl) (fun _ _ _ h => h) rfl (fun wq hS => by go_simp) HSd.out ?_
        try simp only [Act.put, List.setIfInBounds_toArray, List.set_cons_succ, List.set_cons_zero]
        refine takeH 4 (some 36) (.pointer (some ⟨aB, 3, none⟩)) rfl rfl (by kernel_rfl) (by kernel_rfl) (by kernel_rfl) (fun _ _ _ h => h) rfl (fun wq hS => by go_simp) HSd.out ?_
        try simp only [Act.put, List.setIfInBounds_toArray, List.set_cons_succ, List.set_cons_zero]
        refine twoH 1 5 (by kernel_rfl) rfl rfl rfl rfl (fun K hK => ?_) (fun K hK => ?_)
        · refine wp_runTo (some 33) rfl (.slice (some ⟨qb, qo, none⟩) m fc) wS (by have hq := HVd.out.cell (i := 3) rfl; go_simp) ?_
          refine hK _ _ HSd.out ?_
          clear hK K
          try simp only [Act.put, List.setIfInBounds_toArray, List.set_cons_succ, List.set_cons_zero]
          refine takeH 2 (some 34) (.pointer (some ⟨qb, qo, none⟩)) rfl rfl (by kernel_rfl) (by kernel_rfl) (by kernel_rfl) (fun _ _ _ h => h) rfl (fun wq hS => by have hm0 : ¬ m = 0 := (by omega); have hm1 : (0 : Int) < (m : Int) := hmp; go_simp) HSd.out ?_
          try simp only [Act.put, List.setIfInBounds_toArray, List.set_cons_succ, List.set_cons_zero]
          refine takeH 3 (some 35) (.int .i64 f) rfl rfl (by kernel_rfl) (by kernel_rfl) (by kernel_rfl) (fun _ _ _ h => h) rfl (fun wq hS => by have q := HQ3.out wq hS; go_simp) HSd.out ?_
          try simp only [Act.put, List.setIfInBounds_toArray, List.set_cons_succ, List.set_cons_zero]
          refine oneH 5 (by kernel_rfl) rfl rfl fun K hK => ?_
          refine wp_runTo (some 37) rfl (.slice (some ⟨qb, qo, none⟩) m fc) wS (by have hq := HVd.out.cell (i := 3) rfl; go_simp) ?_
          refine hK _ _ HSd.out ?_
          clear hK K
          try simp only [Act.put, List.setIfInBounds_toArray, List.set_cons_succ, List.set_cons_zero]
          refine takeH 6 (some 38) (.slice (cutA (some ⟨qb, qo, none⟩) 1 fc 1) (m - 1) (fc - 1)) rfl rfl (by kernel_rfl) (by kernel_rfl) (by kernel_rfl) (fun _ _ _ h => h) rfl (fun wq hS => exec_from25 wq _ _ _ _ rfl (some ⟨qb, qo, none⟩) m fc 1 rfl rfl hmn) HSd.out ?_
          try simp only [Act.put, List.setIfInBounds_toArray, List.set_cons_succ, List.set_cons_zero]
          refine takeH 7 (some 39) (.pointer (some ⟨aB, 0, none⟩)) rfl rfl (by kernel_rfl) (by kernel_rfl) (by kernel_rfl) (fun _ _ _ h => h) rfl (fun wq hS => by go_simp) HSd.out ?_
          try simp only [Act.put, List.setIfInBounds_toArray, List.set_cons_succ, List.set_cons_zero]
          refine oneH 8 (by kernel_rfl) rfl rfl fun K hK => ?_
          refine swp_skipTo none rfl (wS.setCell ⟨aB, 0, none⟩ (.int .i64 f)) (by have hq := HVd.out.cell (i := 0) rfl; have hf := HVd.out.frozen 0; go_simp) ?_
          have HSe : Hid (Only (fun k => k = aB) w10 (wS.setCell ⟨aB, 0, none⟩ (.int .i64 f))) := Lib.hid (HSd.out.setCell (p := ⟨aB, 0, none⟩) (.inl rfl) _)
          have HVe := Lib.hid (HVd.out.set 0 (.int .i64 f))
          refine hK _ _ HSe.out ?_
          clear hK K
          generalize wS.setCell ⟨aB, 0, none⟩ (.int .i64 f) = wT at *
          try simp only [Act.put, List.setIfInBounds_toArray, List.set_cons_succ, List.set_cons_zero]
          refine takeH 9 (some 40) (.pointer (some ⟨aB, 1, none⟩)) rfl rfl (by kernel_rfl) (by kernel_rfl) (by kernel_rfl) (fun _ _ _ h => h) rfl (fun wq hS => by go_simp) HSe.out ?_
          try simp only [Act.put, List.setIfInBounds_toArray, List.set_cons_succ, List.set_cons_zero]
          refine oneH 10 (by kernel_rfl) rfl rfl fun K hK => ?_
          refine swp_skipTo none rfl (wT.setCell ⟨aB, 1, none⟩ (.int .i64 0)) (by have hq := HVe.out.cell (i := 1) rfl; have hf := HVe.out.frozen 1; go_simp) ?_
          have HSf : Hid (Only (fun k => k = aB) w10 (wT.setCell ⟨aB, 1, none⟩ (.int .i64 0))) := Lib.hid (HSe.out.setCell (p := ⟨aB, 1, none⟩) (.inl rfl) _)
          have HVf := Lib.hid (HVe.out.set 1 (.int .i64 0))
          refine hK _ _ HSf.out ?_
          clear hK K
          generalize wT.setCell ⟨aB, 1, none⟩ (.int .i64 0) = wU at *
          try simp only [Act.put, List.setIfInBounds_toArray, List.set_cons_succ, List.set_cons_zero]
          refine takeH 11 (some 41) (.pointer (some ⟨aB, 3, none⟩)) rfl rfl (by kernel_rfl) (by kernel_rfl) (by kernel_rfl) (fun _ _ _ h => h) rfl (fun wq hS => by go_simp) HSf.out ?_
          try simp only [Act.put, List.setIfInBounds_toArray, List.set_cons_succ, List.set_cons_zero]
          refine oneH 12 (by kernel_rfl) rfl rfl fun K hK => ?_
          refine swp_skipTo none rfl (wU.setCell ⟨aB, 3, none⟩ (.slice (cutA (some ⟨qb, qo, none⟩) 1 fc 1) (m - 1) (fc - 1))) (by have hq := HVf.out.cell (i := 3) rfl; have hf := HVf.out.frozen 3; go_simp) ?_
          have HSg : Hid (Only (fun k => k = aB) w10 (wU.setCell ⟨aB, 3, none⟩ (.slice (cutA (some ⟨qb, qo, none⟩) 1 fc 1) (m - 1) (fc - 1)))) := Lib.hid (HSf.out.setCell (p := ⟨aB, 3, none⟩) (.inl rfl) _)
          have HVg := Lib.hid (HVf.out.set 3 (.slice (cutA (some ⟨qb, qo, none⟩) 1 fc 1) (m - 1) (fc - 1)))
          refine hK _ _ HSg.out ?_
          clear hK K
          generalize wU.setCell ⟨aB, 3, none⟩ (.slice (cutA (some ⟨qb, qo, none⟩) 1 fc 1) (m - 1) (fc - 1)) = wV at *
          try simp only [Act.put, List.setIfInBounds_toArray, List.set_cons_succ, List.set_cons_zero]
          refine wpAnyH_done (by kernel_rfl) ?_ _
          go_wp2_with fail
          go_meet
          exact ⟨HVg.out, HSg.out⟩
        · refine wp_runTo (some 37) rfl (.slice (some ⟨qb, qo, none⟩) m fc) wS (by have hq := HVd.out.cell (i := 3) rfl; go_simp) ?_
          refine hK _ _ HSd.out ?_
          clear hK K
          try simp only [Act.put, List.setIfInBounds_toArray, List.set_cons_succ, List.set_cons_zero]
          refine takeH 6 (some 38) (.slice (cutA (some ⟨qb, qo, none⟩) 1 fc 1) (m - 1) (fc - 1)) rfl rfl (by kernel_rfl) (by kernel_rfl) (by kernel_rfl) (fun _ _ _ h => h) rfl (fun wq hS => exec_from25 wq _ _ _ _ rfl (some ⟨qb, qo, none⟩) m fc 1 rfl rfl hmn) HSd.out ?_
          try simp only [Act.put, List.setIfInBounds_toArray, List.set_cons_succ, List.set_cons_zero]
          refine oneH 1 (by kernel_rfl) rfl rfl fun K hK => ?_
          refine wp_runTo (some 33) rfl (.slice (some ⟨qb, qo, none⟩) m fc) wS (by have hq := HVd.out.cell (i := 3) rfl; go_simp) ?_
          refine hK _ _ HSd.out ?_
          clear hK K
          try simp only [Act.put, List.setIfInBounds_toArray, List.set_cons_succ, List.set_cons_zero]
          refine takeH 2 (some 34) (.pointer (some ⟨qb, qo, none⟩)) rfl rfl (by kernel_rfl) (by kernel_rfl) (by kernel_rfl) (fun _ _ _ h => h) rfl (fun wq hS => by have hm0 : ¬ m = 0 := (by omega); have hm1 : (0 : Int) < (m : Int) := hmp; go_simp) HSd.out ?_
          try simp only [Act.put, List.setIfInBounds_toArray, List.set_cons_succ, List.set_cons_zero]
          refine takeH 3 (some 35) (.int .i64 f) rfl rfl (by kernel_rfl) (by kernel_rfl) (by kernel_rfl) (fun _ _ _ h => h) rfl (fun wq hS => by have q := HQ3.out wq hS; go_simp) HSd.out ?_
          try simp only [Act.put, List.setIfInBounds_toArray, List.set_cons_succ, List.set_cons_zero]
          refine takeH 7 (some 39) (.pointer (some ⟨aB, 0, none⟩)) rfl rfl (by kernel_rfl) (by kernel_rfl) (by kernel_rfl) (fun _ _ _ h => h) rfl (fun wq hS => by go_simp) HSd.out ?_
          try simp only [Act.put, List.setIfInBounds_toArray, List.set_cons_succ, List.set_cons_zero]
          refine oneH 8 (by kernel_rfl) rfl rfl fun K hK => ?_
          refine swp_skipTo none rfl (wS.setCell ⟨aB, 0, none⟩ (.int .i64 f)) (by have hq := HVd.out.cell (i := 0) rfl; have hf := HVd.out.frozen 0; go_simp) ?_
          have HSe : Hid (Only (fun k => k = aB) w10 (wS.setCell ⟨aB, 0, none⟩ (.int .i64 f))) := Lib.hid (HSd.out.setCell (p := ⟨aB, 0, none⟩) (.inl rfl) _)
          have HVe := Lib.hid (HVd.out.set 0 (.int .i64 f))
          refine hK _ _ HSe.out ?_
          clear hK K
          generalize wS.setCell ⟨aB, 0, none⟩ (.int .i64 f) = wT at *
          try simp only [Act.put, List.setIfInBounds_toArray, List.set_cons_succ, List.set_cons_zero]
          refine takeH 9 (some 40) (.pointer (some ⟨aB, 1, none⟩)) rfl rfl (by kernel_rfl) (by kernel_rfl) (by kernel_rfl) (fun _ _ _ h => h) rfl (fun wq hS => by go_simp) HSe.out ?_
          try simp only [Act.put, List.setIfInBounds_toArray, List.set_cons_succ, List.set_cons_zero]
          refine oneH 10 (by kernel_rfl) rfl rfl fun K hK => ?_
          refine swp_skipTo none rfl (wT.setCell ⟨aB, 1, none⟩ (.int .i64 0)) (by have hq := HVe.out.cell (i := 1) rfl; have hf := HVe.out.frozen 1; go_simp) ?_
          have HSf : Hid (Only (fun k => k = aB) w10 (wT.setCell ⟨aB, 1, none⟩ (.int .i64 0))) := Lib.hid (HSe.out.setCell (p := ⟨aB, 1, none⟩) (.inl rfl) _)
          have HVf := Lib.hid (HVe.out.set 1 (.int .i64 0))
          refine hK _ _ HSf.out ?_
          clear hK K
          generalize wT.setCell ⟨aB, 1, none⟩ (.int .i64 0) = wU at *
          try simp only [Act.put, List.setIfInBounds_toArray, List.set_cons_succ, List.set_cons_zero]
          refine takeH 11 (some 41) (.pointer (some ⟨aB, 3, none⟩)) rfl rfl (by kernel_rfl) (by kernel_rfl) (by kernel_rfl) (fun _ _ _ h => h) rfl (fun wq hS => by go_simp) HSf.out ?_
          try simp only [Act.put, List.setIfInBounds_toArray, List.set_cons_succ, List.set_cons_zero]
          refine oneH 12 (by kernel_rfl) rfl rfl fun K hK => ?_
          refine swp_skipTo none rfl (wU.setCell ⟨aB, 3, none⟩ (.slice (cutA (some ⟨qb, qo, none⟩) 1 fc 1) (m - 1) (fc - 1))) (by have hq := HVf.out.cell (i := 3) rfl; have hf := HVf.out.frozen 3; go_simp) ?_
          have HSg : Hid (Only (fun k => k = aB) w10 (wU.setCell ⟨aB, 3, none⟩ (.slice (cutA (some ⟨qb, qo, none⟩) 1 fc 1) (m - 1) (fc - 1)))) := Lib.hid (HSf.out.setCell (p := ⟨aB, 3, none⟩) (.inl rfl) _)
          have HVg := Lib.hid (HVf.out.set 3 (.slice (cutA (some ⟨qb, qo, none⟩) 1 fc 1) (m - 1) (fc - 1)))
          refine hK _ _ HSg.out ?_
          clear hK K
          generalize wU.setCell ⟨aB, 3, none⟩ (.slice (cutA (some ⟨qb, qo, none⟩) 1 fc 1) (m - 1) (fc - 1)) = wV at *
          try simp only [Act.put, List.setIfInBounds_toArray, List.set_cons_succ, List.set_cons_zero]
          refine wpAnyH_done (by kernel_rfl) ?_ _
          go_wp2_with fail
          go_meet
          exact ⟨HVg.out, HSg.out⟩
      case rest =>
        obtain ⟨hv, ho⟩ := hcut
        have HM11 := Lib.hid (HM.out.setA ho hv)
        have HT11 := Lib.hid (HT.out _ HM11.out.bel)
        clear hv ho HM
        obtain ⟨ta, n9, tc, htv⟩ : ∃ q n c, Value.slice (cutA (some ⟨qb, qo, none⟩) 1 fc 1) (m - 1) (fc - 1) = .slice q n c := ⟨_, _, _, rfl⟩
        have HTL : Hid (n9 ≤ tc ∧ ∀ b' o, ta = some ⟨b', o, none⟩ → b' = qb) := Lib.hid (by
          have h2 := HT11.out.2
          have h3 := HCP.out
          rw [htv] at h2
          injection htv with e1 e2 e3
          exact ⟨by omega, fun b' o e => by
            obtain ⟨o2, h4⟩ := h2 b' o n9 tc (by rw [e])
            injection h4 with h4
            exact (congrArg Addr.block h4).symm⟩)
        rw [htv] at HM11 HT11 HT
        clear htv
        have HTI : Hid (∀ w', Below w.heap.size w w' → IntsAt w' (.slice ta n9 tc) r) := Lib.hid fun w' hb => (HT.out w' hb).1
        have HGC := Lib.hid (HGN.out wc _ HM11.out.bel HT11.out.1)
        have HWS : Hid (w.heap.size ≤ wc.heap.size ∧ tB < wc.heap.size) := Lib.hid ⟨HM11.out.bel.size, HM11.out.lt.2.2.2.2⟩
        clear HGN HT HT11
        go_upto_region 5 with fail
        refine wp_region_lit ?_
        refine takeL (.pointer (some ⟨b, 0, none⟩)) rfl (by go_simp) ?_
        try simp only [Act.put, List.setIfInBounds_toArray, List.set_cons_succ, List.set_cons_zero]
        refine takeL (.agg #[.int .i64 g.p, .int .i64 g.s, .int .i64 g.l, .int .i64 g.f]) rfl (by have q := HM11.out.gb; have q0 := q.cell (i := 0) rfl; have q1 := q.cell (i := 1) rfl; have q2 := q.cell (i := 2) rfl; have q3 := q.cell (i := 3) rfl; go_simp) ?_
        try simp only [Act.put, List.setIfInBounds_toArray, List.set_cons_succ, List.set_cons_zero]
        refine takeL (.agg #[.int .i64 f, .int .i64 0, .int .u32 a.seq, .slice ta n9 tc]) rfl (by have q := HM11.out.ab; have q0 := q.cell (i := 0) rfl; have q1 := q.cell (i := 1) rfl; have q2 := q.cell (i := 2) rfl; have q3 := q.cell (i := 3) rfl; go_simp) ?_
        try simp only [Act.put, List.setIfInBounds_toArray, List.set_cons_succ, List.set_cons_zero]
        refine wpList_op rfl fun K hK => ?_
        go_simp
        refine (HGC.out).mono ?_
        rintro e w12 ⟨ho, hb⟩
        have HM12 := Lib.hid (HM11.out.below hb)
        clear hb HM11 HGC
        rcases ho with ⟨hr, v, rfl, hf⟩ | ⟨l, ia, n1, c1, aa, n2, c2, pl, hr, rfl, hpl, hi, hp, hpb, hff⟩
        · have HNX2 : Hid (nxt X g a = none) := Lib.hid (by rw [HNX.out, hr]; rfl)
          have HFX := Lib.hid hf
          obtain ⟨T', d', hv⟩ := hf.shape
          subst hv
          clear hf hr
          refine hK _ _ ?_
          clear hK K
          try simp only [Act.put, List.setIfInBounds_toArray, List.set_cons_succ, List.set_cons_zero]
          refine takeL (.agg #[.slice none 0 0, .slice none 0 0]) rfl (by go_simp) ?_
          try simp only [Act.put, List.setIfInBounds_toArray, List.set_cons_succ, List.set_cons_zero]
          refine takeL (.agg #[.int .i64 0, .int .i64 0, .int .u32 0, .slice none 0 0]) rfl (by go_simp) ?_
          try simp only [Act.put, List.setIfInBounds_toArray, List.set_cons_succ, List.set_cons_zero]
          refine takeL (.iface T' d') rfl (by go_simp) ?_
          try simp only [Act.put, List.setIfInBounds_toArray, List.set_cons_succ, List.set_cons_zero]
          refine store_all (cs := #[.slice none 0 0, .slice none 0 0]) HM12.out.rb rfl info55 (gr_one none none 0 0 0 0) rfl rfl rfl ?_
          intro w13 hD hO hlD
          have HF13 := Lib.hid (HFX.out.onlyB hO HM12.out.rb (fun t => by simp))
          have HM13 := Lib.hid (HM12.out.setR hO hD)
          clear hD hO hlD HFX HM12
          try simp only [Act.put, List.setIfInBounds_toArray, List.set_cons_succ, List.set_cons_zero]
          refine store_all (cs := #[.int .i64 0, .int .i64 0, .int .u32 0, .slice none 0 0]) HM13.out.tb rfl info40 (at_one _ _ _ _ _ _) rfl rfl rfl ?_
          intro w14 hD hO hlD
          have HF14 := Lib.hid (HF13.out.onlyB hO HM13.out.tb (fun t => by simp))
          have HM14 := Lib.hid (HM13.out.setT hO hD)
          clear hD hO hlD HF13 HM13
          try simp only [Act.put, List.setIfInBounds_toArray, List.set_cons_succ, List.set_cons_zero]
          refine takeL (.iface T' d') rfl (by go_simp) ?_
          try simp only [Act.put, List.setIfInBounds_toArray, List.set_cons_succ, List.set_cons_zero]
          refine wpList_nil ?_
          go_wp2_with fail
          refine bodyPost_ret (v := .tuple #[.agg #[.slice none 0 0, .slice none 0 0], .agg #[.int .i64 0, .int .i64 0, .int .u32 0, .slice none 0 0], .iface T' d']) (results_cct rfl _ _ rB tB #[.slice none 0 0, .slice none 0 0] #[.int .i64 0, .int .i64 0, .int .u32 0, .slice none 0 0] _ _ (.iface T' d') rfl rfl rfl Tryz.underlying55 Tryz.underlying40 rfl rfl info55 info40 (HM14.out.rb.all rfl) (HM14.out.tb.all rfl)) rfl ⟨.inl ⟨HNX2.out, _, rfl, HF14.out⟩, HGB.out ▸ HM14.out.bel⟩
        · have HNX2 : Hid (nxt X g a = some (l, ⟨f, 0, a.seq, r⟩)) := Lib.hid (by rw [HNX.out, hr]; rfl)
          have HPL := Lib.hid hpl
          have HI := Lib.hid hi
          have HP := Lib.hid hp
          have HPB := Lib.hid hpb
          have HFF : Hid (Fresh w.heap.size (.slice ia n1 c1) ∧ ∀ x ∈ pl, Fresh w.heap.size x.2) := Lib.hid ⟨fun b o n c e => Nat.le_trans HWS.out.1 (hff.1 b o n c e), fun x hx b o n c e => Nat.le_trans HWS.out.1 (hff.2 x hx b o n c e)⟩
          clear hff
          simp only
          obtain ⟨k, hk⟩ : ∃ k, (lay2 a.seq l).1.length = k := ⟨_, rfl⟩
          rw [hk]
          have HKK := Lib.hid hk
          obtain ⟨q, hq⟩ : ∃ q, partsN l = q := ⟨_, rfl⟩
          rw [hq]
          have HQQ := Lib.hid hq
          clear hpl hi hp hpb hr hk hq
          refine hK _ _ ?_
          clear hK K
          try simp only [Act.put, List.setIfInBounds_toArray, List.set_cons_succ, List.set_cons_zero]
          refine takeL (.agg #[.slice ia n1 c1, .slice aa n2 c2]) rfl (by go_simp) ?_
          try simp only [Act.put, List.setIfInBounds_toArray, List.set_cons_succ, List.set_cons_zero]
          refine takeL (.agg #[.int .i64 f, .int .i64 (0 + (k : Int)), .int .u32 ((a.seq + q) % M32), .slice ta n9 tc]) rfl (by go_simp) ?_
          try simp only [Act.put, List.setIfInBounds_toArray, List.set_cons_succ, List.set_cons_zero]
          refine takeL (.nilIface) rfl (by go_simp) ?_
          try simp only [Act.put, List.setIfInBounds_toArray, List.set_cons_succ, List.set_cons_zero]
          refine store_all (cs := #[.slice ia n1 c1, .slice aa n2 c2]) HM12.out.rb rfl info55 (gr_one _ _ _ _ _ _) rfl rfl rfl ?_
          intro w13 hD hO hlD
          have HI13 := Lib.hid (HI.out.only HM12.out.rb (noIt2 _ _ _ _ _ _) hO)
          have HP13 := Lib.hid (HP.out.only hO fun b o n c e => by have h1 := HPB.out b (by rw [e]; rfl); have h2 := HM12.out.lt; have h3 := HWS.out; omega)
          have HM13 := Lib.hid (HM12.out.setR hO hD)
          clear hD hO hlD HI HP HM12
          try simp only [Act.put, List.setIfInBounds_toArray, List.set_cons_succ, List.set_cons_zero]
          refine store_all (cs := #[.int .i64 f, .int .i64 (0 + (k : Int)), .int .u32 ((a.seq + q) % M32), .slice ta n9 tc]) HM13.out.tb rfl info40 (at_one _ _ _ _ _ _) rfl rfl rfl ?_
          intro w14 hD hO hlD
          have HI14 := Lib.hid (HI13.out.only HM13.out.tb (noItA _ _ _ _ _ _) hO)
          have HP14 := Lib.hid (HP13.out.only hO fun b o n c e => by have h1 := HPB.out b (by rw [e]; rfl); have h3 := HWS.out; omega)
          have HM14 := Lib.hid (HM13.out.setT hO hD)
          have HT14 := Lib.hid (HTI.out _ HM14.out.bel)
          clear hD hO hlD HI13 HP13 HM13
          try simp only [Act.put, List.setIfInBounds_toArray, List.set_cons_succ, List.set_cons_zero]
          refine takeL (.nilIface) rfl (by go_simp) ?_
          try simp only [Act.put, List.setIfInBounds_toArray, List.set_cons_succ, List.set_cons_zero]
          refine wpList_nil ?_
          go_wp2_with fail
          refine bodyPost_ret (v := .tuple #[.agg #[.slice ia n1 c1, .slice aa n2 c2], .agg #[.int .i64 f, .int .i64 (0 + (k : Int)), .int .u32 ((a.seq + q) % M32), .slice ta n9 tc], .nilIface]) (results_cct rfl _ _ rB tB #[.slice ia n1 c1, .slice aa n2 c2] #[.int .i64 f, .int .i64 (0 + (k : Int)), .int .u32 ((a.seq + q) % M32), .slice ta n9 tc] _ _ .nilIface rfl rfl rfl Tryz.underlying55 Tryz.underlying40 rfl rfl info55 info40 (HM14.out.rb.all rfl) (HM14.out.tb.all rfl)) rfl ⟨.inr ⟨l, ⟨f, 0, a.seq, r⟩, ia, n1, c1, aa, n2, c2, pl, ta, n9, tc, HNX2.out, by rw [HKK.out, HQQ.out], HPL.out, HI14.out, HP14.out, HT14.out, HTL.out.1, fun b' o e => ⟨qo, m, fc, by rw [HTL.out.2 b' o e]⟩, fun j hj => by have h1 := HPB.out j hj; have h2 := HWS.out; omega, HFF.out.1, HFF.out.2⟩, HGB.out ▸ HM14.out.bel⟩
  · have HNX : Hid (nxt X g a = some (l, a)) := Lib.hid (by unfold nxt; rw [hr])
    have HPL := Lib.hid hpl
    have HI5 := Lib.hid hi
    have HP5 := Lib.hid hp
    have HPB := Lib.hid hpb
    have HFF : Hid (Fresh w.heap.size (.slice ia n1 c1) ∧ ∀ x ∈ pl, Fresh w.heap.size x.2) := Lib.hid (by
      have h1 := HM5.out.lt
      have h2 := HT5.out
      have h3 := HGB.out
      exact ⟨fun b o n c e => by have := hff.1 b o n c e; omega, fun x hx b o n c e => by have := hff.2 x hx b o n c e; omega⟩)
    clear hff
    have HPT : Hid (∀ j, Value.ownBlock (.slice aa n2 c2) = some j → j < w5.heap.size) := Lib.hid (HP5.out.own_lt (by unfold pOf; rw [List.length_map, lay2_at]; exact (mayBe_iff.1 (readP_some hr).1).1))
    obtain ⟨k, hk⟩ : ∃ k, (lay2 a.seq l).1.length = k := ⟨_, rfl⟩
    rw [hk]
    have HKK := Lib.hid hk
    obtain ⟨q, hq⟩ : ∃ q, partsN l = q := ⟨_, rfl⟩
    rw [hq]
    have HQQ := Lib.hid hq
    clear hpl hi hp hpb hr hk hq HGF
    refine hK _ _ ?_
    clear hK K
    try simp only [Act.put, List.setIfInBounds_toArray, List.set_cons_succ, List.set_cons_zero]
    refine takeL (.tuple #[.agg #[.slice ia n1 c1, .slice aa n2 c2], .agg #[.int .i64 a.seg, .int .i64 (a.off + (k : Int)), .int .u32 ((a.seq + q) % M32), .slice fa m fc], .nilIface]) rfl (by go_simp) ?_
    try simp only [Act.put, List.setIfInBounds_toArray, List.set_cons_succ, List.set_cons_zero]
    refine takeL (.agg #[.slice ia n1 c1, .slice aa n2 c2]) rfl (by go_simp) ?_
    try simp only [Act.put, List.setIfInBounds_toArray, List.set_cons_succ, List.set_cons_zero]
    refine takeL (.agg #[.int .i64 a.seg, .int .i64 (a.off + (k : Int)), .int .u32 ((a.seq + q) % M32), .slice fa m fc]) rfl (by go_simp) ?_
    try simp only [Act.put, List.setIfInBounds_toArray, List.set_cons_succ, List.set_cons_zero]
    refine takeL (.nilIface) rfl (by go_simp) ?_
    try simp only [Act.put, List.setIfInBounds_toArray, List.set_cons_succ, List.set_cons_zero]
    refine alloc_g zero55 rfl ?_
    intro w6 hx hb6 hl6
    try simp only [Act.put, List.setIfInBounds_toArray, List.set_cons_succ, List.set_cons_zero]
    refine alloc_g zero40 rfl ?_
    intro w7 he hb7 hl7
    try simp only [Act.put, List.setIfInBounds_toArray, List.set_cons_succ, List.set_cons_zero]
    have HM7 := Lib.hid ((HM5.out.below hb6).below hb7)
    have HI7 := Lib.hid ((HI5.out.below hb6).below hb7)
    have HP7 := Lib.hid ((HP5.out.below hb6).below hb7)
    have HX7 := Lib.hid (hx.below hb7 hx.lt)
    have HE7 := Lib.hid he
    have HL7 : Hid (w5.heap.size < w6.heap.size ∧ w6.heap.size < w7.heap.size) := Lib.hid ⟨hl6, hl7⟩
    clear hx hb6 hl6 he hb7 hl7 HM5 HI5 HP5
    refine store_all (cs := #[.slice ia n1 c1, .slice aa n2 c2]) HX7.out rfl info55 (gr_one _ _ _ _ _ _) rfl rfl rfl ?_
    intro w8 hD hO hlD
    have HM8 := Lib.hid (HM7.out.other hO (by have h1 := HT5.out; omega))
    have HI8 := Lib.hid (HI7.out.only HX7.out (noIt2 none none 0 0 0 0) hO)
    have HP8 := Lib.hid (HP7.out.only hO fun b o n c e => by have h1 := HPT.out b (by rw [e]; rfl); omega)
    have HX8 := Lib.hid hD
    have HE8 := Lib.hid (HE7.out.only hO (by have h1 := HL7.out; omega))
    clear hD hO hlD HM7 HI7 HP7 HX7 HE7
    try simp only [Act.put, List.setIfInBounds_toArray, List.set_cons_succ, List.set_cons_zero]
    refine store_all (cs := #[.int .i64 a.seg, .int .i64 (a.off + (k : Int)), .int .u32 ((a.seq + q) % M32), .slice fa m fc]) HE8.out rfl info40 (at_one _ _ _ _ _ _) rfl rfl rfl ?_
    intro w9 hD hO hlD
    have HM9 := Lib.hid (HM8.out.other hO (by have h1 := HT5.out; have h2 := HL7.out; omega))
    have HI9 := Lib.hid (HI8.out.only HE8.out (noItA 0 0 0 none 0 0) hO)
    have HP9 := Lib.hid (HP8.out.only hO fun b o n c e => by have h1 := HPT.out b (by rw [e]; rfl); have h2 := HL7.out; omega)
    have HX9 := Lib.hid (HX8.out.only hO (by have h1 := HL7.out; omega))
    have HE9 := Lib.hid hD
    have HLX : Hid (rB < tB ∧ tB < w5.heap.size ∧ w5.heap.size < w6.heap.size ∧ w.heap.size < rB ∧ tB < w4.heap.size ∧ w4.heap.size ≤ w5.heap.size) := Lib.hid ⟨HM8.out.lt.2.2.2.1, by have h1 := HT5.out; omega, HL7.out.1, by have h1 := HM8.out.lt; omega, HT5.out.1, HT5.out.2⟩
    have HFO : Hid (∀ b' o n c, Value.slice fa m fc = .slice (some ⟨b', o, none⟩) n c → b' < w.heap.size) := HFB
    clear hD hO hlD HM8 HI8 HP8 HX8 HE8 HT5 HL7 HPT
    generalize w4.heap.size = cB at *
    generalize w5.heap.size = xB at *
    generalize w6.heap.size = eB at *
    try simp only [Act.put, List.setIfInBounds_toArray, List.set_cons_succ, List.set_cons_zero]
    refine takeL (.nilIface) rfl (by go_simp) ?_
    try simp only [Act.put, List.setIfInBounds_toArray, List.set_cons_succ, List.set_cons_zero]
    refine wpList_nil ?_
    have q3 := HM9.out.ab.cell (i := 3) rfl
    go_wp2_with fail
    refine (is_nil 17 false rfl _).mono ?_
    rintro e w10 ⟨rfl, hb⟩
    have HM := Lib.hid (HM9.out.below hb)
    have HI := Lib.hid (HI9.out.below hb)
    have HP := Lib.hid (HP9.out.below hb)
    have HXB := Lib.hid (HX9.out.below hb HX9.out.lt)
    have HEB := Lib.hid (HE9.out.below hb HE9.out.lt)
    have HF := Lib.hid (HF0.out.below HM.out.bel)
    clear hb HM9 HI9 HP9 HX9 HE9 q3
    have q3 := HM.out.ab.cell (i := 3) rfl
    go_upto_region 3 with fail
    refine startH (fun wq => Only (fun j => j = rB ∨ j = tB) w10 wq) (by kernel_rfl) ?_
    have HSd : Hid (Only (fun j => j = rB ∨ j = tB) w10 w10.drew) := Lib.hid (Only.refl _ _).drew
    have HXW : Hid (∀ wq, Only (fun j => j = rB ∨ j = tB) w10 wq → Blk wq xB [.slice ia n1 c1, .slice aa n2 c2]) := Lib.hid fun wq hS => HXB.out.only hS (by have h1 := HLX.out; omega)
    have HEW : Hid (∀ wq, Only (fun j => j = rB ∨ j = tB) w10 wq → Blk wq eB [.int .i64 a.seg, .int .i64 (a.off + (k : Int)), .int .u32 ((a.seq + q) % M32), .slice fa m fc]) := Lib.hid fun wq hS => HEB.out.only hS (by have h1 := HLX.out; omega)
    have HMd := Lib.hid (HM.out.below (Below.refl _ _).drew)
    have HId := Lib.hid (HI.out.below (Below.refl _ _).drew)
    have HPd := Lib.hid (HP.out.below (Below.refl _ _).drew)
    have HFd := Lib.hid (HF.out.below (Below.refl _ _).drew)
    generalize w10.drew = wS at *
    refine takeH 0 (some 29) (.agg #[.slice ia n1 c1, .slice aa n2 c2]) rfl rfl (by kernel_rfl) (by kernel_rfl) (by kernel_rfl) (fun _ _ _ h => h) rfl (fun wq hS => by have q := HXW.out wq hS; have q0 := q.cell (i := 0) rfl; have q1 := q.cell (i := 1) rfl; go_simp) HSd.out ?_
    try simp only [Act.put, List.setIfInBounds_toArray, List.set_cons_succ, List.set_cons_zero]
    refine takeH 1 (some 30) (.agg #[.int .i64 a.seg, .int .i64 (a.off + (k : Int)), .int .u32 ((a.seq + q) % M32), .slice fa m fc]) rfl rfl (by kernel_rfl) (by kernel_rfl) (by kernel_rfl) (fun _ _ _ h => h) rfl (fun wq hS => by have q := HEW.out wq hS; have q0 := q.cell (i := 0) rfl; have q1 := q.cell (i := 1) rfl; have q2 := q.cell (i := 2) rfl; have q3 := q.cell (i := 3) rfl; go_simp) HSd.out ?_
    try simp only [Act.put, List.setIfInBounds_toArray, List.set_cons_succ, List.set_cons_zero]
    refine takeH 2 (some 31) (.nilIface) rfl rfl (by kernel_rfl) (by kernel_rfl) (by kernel_rfl) (fun _ _ _ h => h) rfl (fun wq hS => by go_simp) HSd.out ?_
    try simp only [Act.put, List.setIfInBounds_toArray, List.set_cons_succ, List.set_cons_zero]
    refine oneH 3 (by kernel_rfl) rfl rfl fun K hK => ?_
    refine wp_store_all 55 _ _ rfl rB #[.slice ia n1 c1, .slice aa n2 c2] rfl rfl _ HMd.out.rb rfl info55 (gr_one _ _ _ _ _ _) ?_
    intro u10 hD hO
    have HS10 : Hid (Only (fun j => j = rB ∨ j = tB) w10 u10) := Lib.hid (HSd.out.trans (hO.more fun j _ hj => .inl hj))
    have HM10 := Lib.hid (HMd.out.setR hO hD)
    have HI10 := Lib.hid (HId.out.only HMd.out.rb (noIt2 _ _ _ _ _ _) hO)
    have HP10 := Lib.hid (HPd.out.only hO fun b o n c e => by have h1 := HPB.out b (by rw [e]; rfl); have h2 := HLX.out; omega)
    have HF10 := Lib.hid (HFd.out.only hO fun b o n c e => by have h1 := HFO.out b o n c e; have h2 := HLX.out; omega)
    refine hK _ _ HS10.out ?_
    clear hK K hD hO
    try simp only [Act.put, List.setIfInBounds_toArray, List.set_cons_succ, List.set_cons_zero]
    refine oneH 4 (by kernel_rfl) rfl rfl fun K hK => ?_
    refine wp_store_all 40 _ _ rfl tB #[.int .i64 a.seg, .int .i64 (a.off + (k : Int)), .int .u32 ((a.seq + q) % M32), .slice fa m fc] rfl rfl _ HM10.out.tb rfl info40 (at_one _ _ _ _ _ _) ?_
    intro u11 hD hO
    have HS11 : Hid (Only (fun j => j = rB ∨ j = tB) w10 u11) := Lib.hid (HS10.out.trans (hO.more fun j _ hj => .inr hj))
    have HM11 := Lib.hid (HM10.out.setT hO hD)
    have HI11 := Lib.hid (HI10.out.only HM10.out.tb (noItA _ _ _ _ _ _) hO)
    have HP11 := Lib.hid (HP10.out.only hO fun b o n c e => by have h1 := HPB.out b (by rw [e]; rfl); have h2 := HLX.out; omega)
    have HF11 := Lib.hid (HF10.out.only hO fun b o n c e => by have h1 := HFO.out b o n c e; have h2 := HLX.out; omega)
    refine hK _ _ HS11.out ?_
    clear hK K hD hO
    try simp only [Act.put, List.setIfInBounds_toArray, List.set_cons_succ, List.set_cons_zero]
    refine takeH 5 (some 8) (.nilIface) rfl rfl (by kernel_rfl) (by kernel_rfl) (by kernel_rfl) (fun _ _ _ h => h) rfl (fun wq hS => by go_simp) HS11.out ?_
    try simp only [Act.put, List.setIfInBounds_toArray, List.set_cons_succ, List.set_cons_zero]
    refine wpAnyH_done (by kernel_rfl) ?_ _
    go_wp2_with fail
    refine bodyPost_ret (v := .tuple #[.agg #[.slice ia n1 c1, .slice aa n2 c2], .agg #[.int .i64 a.seg, .int .i64 (a.off + (k : Int)), .int .u32 ((a.seq + q) % M32), .slice fa m fc], .nilIface]) (results_cct rfl _ _ rB tB #[.slice ia n1 c1, .slice aa n2 c2] #[.int .i64 a.seg, .int .i64 (a.off + (k : Int)), .int .u32 ((a.seq + q) % M32), .slice fa m fc] _ _ (.nilIface) rfl rfl rfl Tryz.underlying55 Tryz.underlying40 rfl rfl info55 info40 (HM11.out.rb.all rfl) (HM11.out.tb.all rfl)) rfl ⟨.inr ⟨l, a, ia, n1, c1, aa, n2, c2, pl, fa, m, fc, HNX.out, by rw [HKK.out, HQQ.out], HPL.out, HI11.out, HP11.out, HF11.out, HCP.out, fun b o e => ⟨o, m, fc, by rw [e]⟩, fun j hj => by have h1 := HPB.out j hj; have h2 := HLX.out; omega, HFF.out.1, HFF.out.2⟩, HGB.out ▸ HM11.out.bel⟩

end

end Go.Proofs.YthlnmdihdcfphaaGreatDoor
