/- Package scan: groupAt. -/
import Derived.Test.YthlnmdihdcfphaaGreatDoorMh
import Derived.Test.YthlnmdihdcfphaaGreatDoorMg
import Derived.Test.YthlnmdihdcfphaaGreatDoorHd
namespace Go.Proofs.YthlnmdihdcfphaaGreatDoor
set_option linter.unusedSimpArgs false
set_option linter.unusedVariables false
open Go.RowKit

theorem results_cct {P : Program} {fn : Func} {p q r : Tmp} {ty ty2 : TypeId} (h : fn.results = #[.cell p ty, .cell q ty2, .tmp r]) (tmps : Array Value) (w : World) (g g2 : Nat) (cs cs2 : Array Value) (d d2 : TypeDesc) (v : Value)
    (hp : tmps.getD p undef = .pointer (some ⟨g, 0, none⟩)) (hq : tmps.getD q undef = .pointer (some ⟨g2, 0, none⟩)) (hv : tmps.getD r undef = v) (hu : P.underlying ty = some d) (hu2 : P.underlying ty2 = some d2) (hd : (match d with | .struct _ | .array _ _ => true | _ => false) = true) (hd2 : (match d2 with | .struct _ | .array _ _ => true | _ => false) = true) (hi : (P.info? ty).map (·.size) = some cs.size) (hi2 : (P.info? ty2).map (·.size) = some cs2.size)
    (hc : ∀ j (h : j < cs.size), w.cell? ⟨g, 0 + j, none⟩ = some cs[j]) (hc2 : ∀ j (h : j < cs2.size), w.cell? ⟨g2, 0 + j, none⟩ = some cs2[j]) :
    (results fn tmps).run P w = .ok (.tuple #[.agg cs, .agg cs2, v]) w := by
  have hp' : tmps[p]?.getD undef = .pointer (some ⟨g, 0, none⟩) := by simpa using hp
  have hq' : tmps[q]?.getD undef = .pointer (some ⟨g2, 0, none⟩) := by simpa using hq
  have hv' : tmps[r]?.getD undef = v := by simpa using hv
  simp [results, h, hp', hq', hv', asAddr, run_load_at w g 0 ty cs d hu hd hi hc, run_load_at w g2 0 ty2 cs2 d2 hu2 hd2 hi2 hc2]
theorem results_tct {P : Program} {fn : Func} {p q r : Tmp} {ty2 : TypeId} (h : fn.results = #[.tmp p, .cell q ty2, .tmp r]) (tmps : Array Value) (w : World) (g2 : Nat) (cs2 : Array Value) (d2 : TypeDesc) (u v : Value)
    (hp : tmps.getD p undef = u) (hq : tmps.getD q undef = .pointer (some ⟨g2, 0, none⟩)) (hv : tmps.getD r undef = v) (hu2 : P.underlying ty2 = some d2) (hd2 : (match d2 with | .struct _ | .array _ _ => true | _ => false) = true) (hi2 : (P.info? ty2).map (·.size) = some cs2.size)
    (hc2 : ∀ j (h : j < cs2.size), w.cell? ⟨g2, 0 + j, none⟩ = some cs2[j]) :
    (results fn tmps).run P w = .ok (.tuple #[u, .agg cs2, v]) w := by
  have hp' : tmps[p]?.getD undef = u := by simpa using hp
  have hq' : tmps[q]?.getD undef = .pointer (some ⟨g2, 0, none⟩) := by simpa using hq
  have hv' : tmps[r]?.getD undef = v := by simpa using hv
  simp [results, h, hp', hq', hv', asAddr, run_load_at w g2 0 ty2 cs2 d2 hu2 hd2 hi2 hc2]
theorem zero55 : (Tryz.prog.info? 55).bind (·.zero) = some (.agg #[.slice none 0 0, .slice none 0 0]) := by kernel_rfl
theorem info55 : (Tryz.prog.info? 55).map (·.size) = some 2 := by kernel_rfl
theorem built55z : Tryz.prog.built 55 [] = some #[.slice none 0 0, .slice none 0 0] := by kernel_rfl
theorem built55 (a b : Option Addr) (k c n d : Nat) : Tryz.prog.built 55 [(0, .slice a k c), (1, .slice b n d)] = some #[.slice a k c, .slice b n d] := by kernel_rfl
theorem gr_one (a b : Option Addr) (k c n d : Nat) : ∀ v ∈ (#[.slice a k c, .slice b n d] : Array Value), v.oneCell' = true := fun v hv => by
  simp only [List.mem_toArray, List.mem_cons, List.not_mem_nil, or_false] at hv
  rcases hv with rfl | rfl <;> rfl
theorem noIt2 (a b : Option Addr) (k c n d : Nat) : NoIt [.slice a k c, .slice b n d] := ⟨by simp, fun z hz => by simp at hz⟩
theorem noItA (x y z : Int) (a : Option Addr) (k c : Nat) : NoIt [.int .i64 x, .int .i64 y, .int .u32 z, .slice a k c] := ⟨by simp, fun z hz => by simp at hz⟩
/-- The variables of a call that is given a geometry and a place. -/
structure Fm (w wx : World) (gB aB rB tB : Nat) (g : Pl.Gm) (A R T : List Value) : Prop where
  gb : Blk wx gB [.int .i64 g.p, .int .i64 g.s, .int .i64 g.l, .int .i64 g.f]
  ab : Blk wx aB A
  rb : Blk wx rB R
  tb : Blk wx tB T
  bel : Below w.heap.size w wx
  lt : w.heap.size ≤ gB ∧ gB < aB ∧ aB < rB ∧ rB < tB ∧ tB < wx.heap.size
theorem Fm.below {w wx wy : World} {gB aB rB tB : Nat} {g : Pl.Gm} {A R T : List Value} (h : Fm w wx gB aB rB tB g A R T) (hb : Below wx.heap.size wx wy) : Fm w wy gB aB rB tB g A R T :=
  ⟨h.gb.below hb h.gb.lt, h.ab.below hb h.ab.lt, h.rb.below hb h.rb.lt, h.tb.below hb h.tb.lt, stay h.bel hb, h.lt.1, h.lt.2.1, h.lt.2.2.1, h.lt.2.2.2.1, Nat.lt_of_lt_of_le h.lt.2.2.2.2 hb.size⟩
theorem Fm.setA {w wx wy : World} {gB aB rB tB : Nat} {g : Pl.Gm} {A A' R T : List Value} (h : Fm w wx gB aB rB tB g A R T) (ho : Only (fun k => k = aB) wx wy) (hb : Blk wy aB A') : Fm w wy gB aB rB tB g A' R T := by
  obtain ⟨l1, l2, l3, l4, l5⟩ := h.lt
  exact ⟨h.gb.only ho (by omega), hb, h.rb.only ho (by omega), h.tb.only ho (by omega), h.bel.trans (ho.below h.bel.size fun k hk => by omega), l1, l2, l3, l4, Nat.lt_of_lt_of_le l5 ho.size⟩
theorem Fm.setR {w wx wy : World} {gB aB rB tB : Nat} {g : Pl.Gm} {A R R' T : List Value} (h : Fm w wx gB aB rB tB g A R T) (ho : Only (fun k => k = rB) wx wy) (hb : Blk wy rB R') : Fm w wy gB aB rB tB g A R' T := by
  obtain ⟨l1, l2, l3, l4, l5⟩ := h.lt
  exact ⟨h.gb.only ho (by omega), h.ab.only ho (by omega), hb, h.tb.only ho (by omega), h.bel.trans (ho.below h.bel.size fun k hk => by omega), l1, l2, l3, l4, Nat.lt_of_lt_of_le l5 ho.size⟩
theorem Fm.setT {w wx wy : World} {gB aB rB tB : Nat} {g : Pl.Gm} {A R T T' : List Value} (h : Fm w wx gB aB rB tB g A R T) (ho : Only (fun k => k = tB) wx wy) (hb : Blk wy tB T') : Fm w wy gB aB rB tB g A R T' := by
  obtain ⟨l1, l2, l3, l4, l5⟩ := h.lt
  exact ⟨h.gb.only ho (by omega), h.ab.only ho (by omega), h.rb.only ho (by omega), hb, h.bel.trans (ho.below h.bel.size fun k hk => by omega), l1, l2, l3, l4, Nat.lt_of_lt_of_le l5 ho.size⟩
theorem Fault.onlyB {g : Nat} {w w' : World} {n : Int} {v : Value} (h : Fault w n v) (ho : Only (fun k => k = g) w w') {L : List Value} (hb : Blk w g L) (hL : ∀ t, L[0]? ≠ some (.string t)) : Fault w' n v := by
  obtain ⟨T, d, t, ts, e, hc⟩ := h
  refine ⟨T, d, t, ts, e, hc.onlyZ ho fun q hq => ?_⟩
  have := hb.has_cell hq
  exact hL q this
/-- What group.Read told of a segment's sectors, in a variable of one's own. -/
def RdOut (B : Nat) (wx : World) (q : Int) (r : Option (List It)) (k : Nat) (ok : Bool) : Prop := (r = none ∧ ok = false) ∨ ∃ ia n1 c1 aa c2 pl, r = some (pl.map (·.1)) ∧ ok = true ∧ n1 = pl.length ∧ Blk wx k [.slice ia n1 c1, .slice aa n1 c2, .int .i64 (lay2 q (pl.map (·.1))).1.length, .int .i64 (parts pl.length)] ∧ ItemsAt wx (.slice ia n1 c1) pl ∧ IntsAt wx (.slice aa n1 c2) (lay2 q (pl.map (·.1))).2 ∧ (∀ j, Value.ownBlock (.slice aa n1 c2) = some j → B ≤ j ∧ j < wx.heap.size) ∧ Fresh B (.slice ia n1 c1) ∧ ∀ x ∈ pl, Fresh B x.2
/-- What groupAt hands back: where there is none; where there is one. -/
def GrOut (B : Nat) (g : Pl.Gm) (a : Ja) (fv : Value) (r : Option (List It)) (e : Ending) (w' : World) : Prop :=
  (r = none ∧ ∃ v, e = .returned (.tuple #[.agg #[.slice none 0 0, .slice none 0 0], .agg #[.int .i64 0, .int .i64 0, .int .u32 0, .slice none 0 0], v]) ∧ Fault w' 17 v) ∨
  ∃ l ia n1 c1 aa n2 c2 pl, r = some l ∧ e = .returned (.tuple #[.agg #[.slice ia n1 c1, .slice aa n2 c2], .agg #[.int .i64 a.seg, .int .i64 (a.off + (lay2 a.seq l).1.length), .int .u32 ((a.seq + partsN l) % M32), fv], .nilIface]) ∧ pl.map (·.1) = l ∧ ItemsAt w' (.slice ia n1 c1) pl ∧ IntsAt w' (.slice aa n2 c2) (pOf g a a l) ∧ (∀ j, Value.ownBlock (.slice aa n2 c2) = some j → B ≤ j) ∧ Fresh B (.slice ia n1 c1) ∧ ∀ x ∈ pl, Fresh B x.2
theorem sub_nat {x y : Int} (h : y ≤ x) : ∃ n : Nat, (x - y).toNat = n ∧ x - y = (n : Int) := ⟨_, rfl, by omega⟩
theorem IntsAt.own_lt {w : World} {sv : Value} {l : List Int} (h : IntsAt w sv l) (hl : 0 < l.length) : ∀ j, sv.ownBlock = some j → j < w.heap.size := fun j hj => by
  obtain ⟨b, o, cap, e, hc⟩ := h.has hl
  subst e
  have : b < w.heap.size := block_lt_of_cell (hc 0 _ (List.getElem?_eq_getElem hl))
  simp [Value.ownBlock] at hj
  omega
section
variable {W w : World} {b : Nat} {F : Nat → Prop} {d : De.D} {g : Pl.Gm} {a : Ja} {fv : Value}
set_option maxRecDepth 100000 in
set_option maxHeartbeats 4000000 in
theorem groupAt_any {X : List (List Int)} (h : De.Dv W w b F d) (hX : Img d X) (hLn : d.L.length ≤ 1000000) (hbig : X.length ≤ 1024) (hg : a.good g = true) (hq : Seq32 a.seq) (ht : 4 + g.s * g.l ≤ (X.length : Int)) (hf : IntsAt w fv a.free) :
    Calls Tryz.prog 49 #[.pointer (some ⟨b, 0, none⟩), g.v, .agg #[.int .i64 a.seg, .int .i64 a.off, .int .u32 a.seq, fv]] w fun e w' => GrOut w.heap.size g a fv (gAt X g a) e w' ∧ Below w.heap.size w w' := by
  obtain ⟨hgo, hsg, ho1, ho2, -⟩ := Ja.good_parts hg
  have hl32 := hgo.2.2.1.2
  obtain ⟨hfn, hf4⟩ := first_nat hg
  have hsl : a.seg * g.l ≤ (g.s - 1) * g.l := Int.mul_le_mul_of_nonneg_right (by omega) (by omega)
  rw [Int.sub_mul, Int.one_mul] at hsl
  have hs0 : 0 ≤ a.seg * g.l := Int.mul_nonneg hsg.1 (by omega)
  obtain ⟨n, hn, hn2⟩ := sub_nat ho2
  have hgr : gAt X g a = readP a.seq ((X.drop (firstOf g a).toNat).take n) := by unfold gAt; rw [hn]
  have HFO : Hid (firstOf g a = (((firstOf g a).toNat : Nat) : Int)) := Lib.hid (by unfold firstOf at hfn ⊢; omega)
  obtain ⟨f, hff⟩ : ∃ f, (firstOf g a).toNat = f := ⟨_, rfl⟩
  rw [hff] at hfn hf4 hgr HFO
  have hfl : f + n ≤ X.length := by omega
  obtain ⟨L, hL⟩ : ∃ L, (X.drop f).take n = L := ⟨_, rfl⟩
  have hLl : L.length = n := by rw [← hL, List.length_take, List.length_drop]; omega
  rw [hL] at hgr
  have HSE : Hid (∀ w', Below w.heap.size w w' → Calls Tryz.prog 67 #[.pointer (some ⟨b, 0, none⟩), .int .i64 f, .int .i64 n] w' fun e w'' => ∃ sv, e = .returned sv ∧ SecsAt w'' sv L ∧ Below w'.heap.size w' w'') := Lib.hid fun w' hb => by
    rw [← hL]
    exact sectorsOf_any (h.below hb) hX hLn f n (by omega) hfl (by omega)
  have HRG : Hid (∀ w' sv, SecsAt w' sv L → Calls Tryz.prog 66 #[.int .u32 a.seq, sv] w' fun e w'' => ReadOutF w'.heap.size a.seq (readP a.seq L) e w'' ∧ Below w'.heap.size w' w'') := Lib.hid fun w' sv hs => readF_any a.seq hq L n hLl (by omega) sv w' hs
  have HLN := Lib.hid hLl
  rw [hgr]
  obtain ⟨r, hr⟩ : ∃ r, readP a.seq L = r := ⟨_, rfl⟩
  rw [hr] at HRG ⊢
  have HMB : Hid (∀ l, r = some l → mayBe l = true) := Lib.hid fun l e => by rw [e] at hr; exact (readP_some hr).1
  have HSG := Lib.hid fun w' => Pl.seg_in g hgo a.seg ⟨hsg.1, by omega⟩ w'
  have gw : Hid (IntKind.i64.wrap (4 + a.seg * g.l + a.off) = (f : Int)) := Lib.hid (by rw [hfn]; exact wrap64 (by omega) (by omega))
  have gw1 : Hid (IntKind.i64.wrap (g.l - a.off) = (n : Int)) := Lib.hid (by rw [hn2]; exact wrap64 (by omega) (by omega))
  have gw2 : Hid (∀ k : Nat, k ≤ 1000 → IntKind.i64.wrap (a.off + (k : Int)) = a.off + (k : Int)) := Lib.hid fun k hk => wrap64 (by omega) (by omega)
  have gw3 : Hid (∀ k : Nat, k ≤ 1000 → IntKind.u32.wrap (k : Int) = (k : Int)) := Lib.hid fun k hk => wrap32 (by omega) (by omega)
  have gw4 : Hid (∀ k : Nat, IntKind.u32.wrap (a.seq + (k : Int)) = (a.seq + (k : Int)) % M32) := Lib.hid fun k => by rw [IntKind.wrap_u32]; rfl
  have HFS : Hid ((0 : Int) ≤ (f : Int) ∧ (f : Int) ≤ 2000) := Lib.hid (by omega)
  have HNF := Lib.hid fun s w => new_fault 17 rfl s w
  have HFV := Lib.hid hf
  obtain ⟨fa, fc, hfv⟩ := hf.form
  obtain ⟨m, hm⟩ : ∃ m, a.free.length = m := ⟨_, rfl⟩
  rw [hm] at hfv
  subst hfv
  clear h hX hLn hbig hg hq ht hf hgo hsg ho1 ho2 hl32 hfn hf4 hsl hs0 hn hn2 hgr hff hfl hL hLl hr hm
  go_enter Tryz.func49, Tryz.ntmps49
  go_upto_region 0 with fail
  refine wp_region_lit ?_
  refine box_g (cs := #[.int .i64 g.p, .int .i64 g.s, .int .i64 g.l, .int .i64 g.f]) rfl rfl ?_
  intro w1 hG hb1 hl1
  try simp only [Act.put, List.setIfInBounds_toArray, List.set_cons_succ, List.set_cons_zero]
  refine box_g (cs := #[.int .i64 a.seg, .int .i64 a.off, .int .u32 a.seq, .slice fa m fc]) rfl rfl ?_
  intro w2 hA hb2 hl2
  try simp only [Act.put, List.setIfInBounds_toArray, List.set_cons_succ, List.set_cons_zero]
  refine alloc_g zero55 rfl ?_
  intro w3 hR hb3 hl3
  try simp only [Act.put, List.setIfInBounds_toArray, List.set_cons_succ, List.set_cons_zero]
  refine alloc_g zero40 rfl ?_
  intro w4 hT hb4 hl4
  try simp only [Act.put, List.setIfInBounds_toArray, List.set_cons_succ, List.set_cons_zero]
  have HM4 : Hid (Fm w w4 w.heap.size w1.heap.size w2.heap.size w3.heap.size g [.int .i64 a.seg, .int .i64 a.off, .int .u32 a.seq, .slice fa m fc] [.slice none 0 0, .slice none 0 0] [.int .i64 0, .int .i64 0, .int .u32 0, .slice none 0 0]) := Lib.hid (by
    have b3 := hb3.trans (hb4.mono hb3.size)
    have b2 := hb2.trans (b3.mono hb2.size)
    exact ⟨hG.below b2 hG.lt, hA.below b3 hA.lt, hR.below hb4 hR.lt, hT, hb1.trans (b2.mono hb1.size), Nat.le_refl _, hl1, hl2, hl3, hl4⟩)
  have HB4 : Hid (Below w.heap.size w w4) := Lib.hid HM4.out.bel
  clear hG hb1 hl1 hA hb2 hl2 hR hb3 hl3 hT hb4 hl4
  obtain ⟨gB, hgB⟩ : ∃ k, w.heap.size = k := ⟨_, rfl⟩
  rw [hgB]
  have HGB := Lib.hid hgB
  have HM : Hid (Fm w w4 gB w1.heap.size w2.heap.size w3.heap.size g [.int .i64 a.seg, .int .i64 a.off, .int .u32 a.seq, .slice fa m fc] [.slice none 0 0, .slice none 0 0] [.int .i64 0, .int .i64 0, .int .u32 0, .slice none 0 0]) := Lib.hid (by rw [← HGB.out]; exact HM4.out)
  clear hgB HM4
  generalize w1.heap.size = aB at *
  generalize w2.heap.size = rB at *
  generalize w3.heap.size = tB at *
  refine takeL (.nilIface) rfl (by go_simp) ?_
  try simp only [Act.put, List.setIfInBounds_toArray, List.set_cons_succ, List.set_cons_zero]
  refine wpList_nil ?_
  go_upto_region 1 with fail
  go_cut [9] from 12 to 19 (fun s wx => s = .int .i64 (f : Int) ∧ Below w4.heap.size w4 wx)
  case first =>
    refine startH (fun wq => Below w4.heap.size w4 wq) (by kernel_rfl) ?_
    have HSd : Hid (Below w4.heap.size w4 w4.drew) := Lib.hid (Below.refl _ _).drew
    refine takeH 0 (some 12) (.agg #[.int .i64 g.p, .int .i64 g.s, .int .i64 g.l, .int .i64 g.f]) rfl rfl (by kernel_rfl) (by kernel_rfl) (by kernel_rfl) (fun _ _ _ h => h) rfl (fun wq hS => by have q := HM.out.gb.below hS HM.out.gb.lt; have q0 := q.cell (i := 0) rfl; have q1 := q.cell (i := 1) rfl; have q2 := q.cell (i := 2) rfl; have q3 := q.cell (i := 3) rfl; go_simp) HSd.out ?_
    try simp only [Act.put, List.setIfInBounds_toArray, List.set_cons_succ, List.set_cons_zero]
    refine takeH 1 (some 13) (.pointer (some ⟨aB, 0, none⟩)) rfl rfl (by kernel_rfl) (by kernel_rfl) (by kernel_rfl) (fun _ _ _ h => h) rfl (fun wq hS => by go_simp) HSd.out ?_
    try simp only [Act.put, List.setIfInBounds_toArray, List.set_cons_succ, List.set_cons_zero]
    refine takeH 2 (some 14) (.int .i64 a.seg) rfl rfl (by kernel_rfl) (by kernel_rfl) (by kernel_rfl) (fun _ _ _ h => h) rfl (fun wq hS => by have q := (HM.out.ab.below hS HM.out.ab.lt).cell (i := 0) rfl; go_simp) HSd.out ?_
    try simp only [Act.put, List.setIfInBounds_toArray, List.set_cons_succ, List.set_cons_zero]
    refine takeH 4 (some 16) (.pointer (some ⟨aB, 1, none⟩)) rfl rfl (by kernel_rfl) (by kernel_rfl) (by kernel_rfl) (fun _ _ _ h => h) rfl (fun wq hS => by go_simp) HSd.out ?_
    try simp only [Act.put, List.setIfInBounds_toArray, List.set_cons_succ, List.set_cons_zero]
    refine takeH 5 (some 17) (.int .i64 a.off) rfl rfl (by kernel_rfl) (by kernel_rfl) (by kernel_rfl) (fun _ _ _ h => h) rfl (fun wq hS => by have q := (HM.out.ab.below hS HM.out.ab.lt).cell (i := 1) rfl; go_simp) HSd.out ?_
    try simp only [Act.put, List.setIfInBounds_toArray, List.set_cons_succ, List.set_cons_zero]
    refine oneH 3 (by kernel_rfl) rfl rfl fun K hK => ?_
    go_simp
    refine (HSG.out _).mono ?_
    rintro e w5 ⟨rfl, hb⟩
    have HS5 := Lib.hid (stay HSd.out hb)
    refine hK _ _ HS5.out ?_
    clear hK K hb
    try simp only [Act.put, List.setIfInBounds_toArray, List.set_cons_succ, List.set_cons_zero]
    refine takeH 6 (some 18) (.int .i64 (f : Int)) rfl rfl (by kernel_rfl) (by kernel_rfl) (by kernel_rfl) (fun _ _ _ h => h) rfl (fun wq hS => by have q := gw.out; go_simp) HS5.out ?_
    try simp only [Act.put, List.setIfInBounds_toArray, List.set_cons_succ, List.set_cons_zero]
    refine takeH 7 (some 9) (.int .i64 (f : Int)) rfl rfl (by kernel_rfl) (by kernel_rfl) (by kernel_rfl) (fun _ _ _ h => h) rfl (fun wq hS => by go_simp) HS5.out ?_
    try simp only [Act.put, List.setIfInBounds_toArray, List.set_cons_succ, List.set_cons_zero]
    refine wpAnyH_done (by kernel_rfl) ?_ _
    go_wp2_with fail
    go_meet
    exact ⟨rfl, HS5.out⟩
  case rest =>
  obtain ⟨rfl, hb⟩ := hcut
  have HM5 := Lib.hid (HM.out.below hb)
  have HB4 := Lib.hid (stay HB4.out hb)
  clear HM hb
  go_upto_region 2 with fail
  go_cut [10, 11] from 20 to 33 (fun s10 s11 wx => ∃ kB ok, s10 = .pointer (some ⟨kB, 0, none⟩) ∧ s11 = .bool ok ∧ Below wc.heap.size wc wx ∧ wc.heap.size ≤ kB ∧ RdOut wc.heap.size wx a.seq r kB ok ∧ ∃ L, Blk wx kB L ∧ L.length = 4)
  case first =>
    refine startH (fun wq => Below wc.heap.size wc wq) (by kernel_rfl) ?_
    have HSd : Hid (Below wc.heap.size wc wc.drew) := Lib.hid (Below.refl _ _).drew
    refine takeH 0 (some 20) (.pointer (some ⟨aB, 2, none⟩)) rfl rfl (by kernel_rfl) (by kernel_rfl) (by kernel_rfl) (fun _ _ _ h => h) rfl (fun wq hS => by go_simp) HSd.out ?_
    try simp only [Act.put, List.setIfInBounds_toArray, List.set_cons_succ, List.set_cons_zero]
    refine takeH 1 (some 21) (.int .u32 a.seq) rfl rfl (by kernel_rfl) (by kernel_rfl) (by kernel_rfl) (fun _ _ _ h => h) rfl (fun wq hS => by have q := (HM5.out.ab.below hS HM5.out.ab.lt).cell (i := 2) rfl; go_simp) HSd.out ?_
    try simp only [Act.put, List.setIfInBounds_toArray, List.set_cons_succ, List.set_cons_zero]
    refine takeH 2 (some 22) (.pointer (some ⟨b, 0, none⟩)) rfl rfl (by kernel_rfl) (by kernel_rfl) (by kernel_rfl) (fun _ _ _ h => h) rfl (fun wq hS => by go_simp) HSd.out ?_
    try simp only [Act.put, List.setIfInBounds_toArray, List.set_cons_succ, List.set_cons_zero]
    refine takeH 3 (some 23) (.int .i64 (f : Int)) rfl rfl (by kernel_rfl) (by kernel_rfl) (by kernel_rfl) (fun _ _ _ h => h) rfl (fun wq hS => by go_simp) HSd.out ?_
    try simp only [Act.put, List.setIfInBounds_toArray, List.set_cons_succ, List.set_cons_zero]
    refine takeH 4 (some 24) (.pointer (some ⟨gB, 2, none⟩)) rfl rfl (by kernel_rfl) (by kernel_rfl) (by kernel_rfl) (fun _ _ _ h => h) rfl (fun wq hS => by go_simp) HSd.out ?_
    try simp only [Act.put, List.setIfInBounds_toArray, List.set_cons_succ, List.set_cons_zero]
    refine takeH 5 (some 25) (.int .i64 g.l) rfl rfl (by kernel_rfl) (by kernel_rfl) (by kernel_rfl) (fun _ _ _ h => h) rfl (fun wq hS => by have q := (HM5.out.gb.below hS HM5.out.gb.lt).cell (i := 2) rfl; go_simp) HSd.out ?_
    try simp only [Act.put, List.setIfInBounds_toArray, List.set_cons_succ, List.set_cons_zero]
    refine takeH 6 (some 26) (.pointer (some ⟨aB, 1, none⟩)) rfl rfl (by kernel_rfl) (by kernel_rfl) (by kernel_rfl) (fun _ _ _ h => h) rfl (fun wq hS => by go_simp) HSd.out ?_
    try simp only [Act.put, List.setIfInBounds_toArray, List.set_cons_succ, List.set_cons_zero]
    refine takeH 7 (some 27) (.int .i64 a.off) rfl rfl (by kernel_rfl) (by kernel_rfl) (by kernel_rfl) (fun _ _ _ h => h) rfl (fun wq hS => by have q := (HM5.out.ab.below hS HM5.out.ab.lt).cell (i := 1) rfl; go_simp) HSd.out ?_
    try simp only [Act.put, List.setIfInBounds_toArray, List.set_cons_succ, List.set_cons_zero]
    refine takeH 8 (some 28) (.int .i64 (n : Int)) rfl rfl (by kernel_rfl) (by kernel_rfl) (by kernel_rfl) (fun _ _ _ h => h) rfl (fun wq hS => by have q := gw1.out; go_simp) HSd.out ?_
    try simp only [Act.put, List.setIfInBounds_toArray, List.set_cons_succ, List.set_cons_zero]
    generalize wc.drew = wS at *
    refine twoH 9 14 (by kernel_rfl) rfl rfl rfl rfl (fun K hK => ?_) (fun K hK => ?_)
    · go_simp
      refine (HSE.out wS (stay HB4.out HSd.out)).mono ?_
      rintro e v1 ⟨sv, rfl, hs, hb⟩
      have Sv1 := Lib.hid (stay HSd.out hb)
      have SSv1 := Lib.hid hs
      obtain ⟨sa, sc, hsv, -⟩ := id hs
      rw [HLN.out] at hsv
      subst hsv
      refine hK _ _ Sv1.out ?_
      clear hK K hb hs
      try simp only [Act.put, List.setIfInBounds_toArray, List.set_cons_succ, List.set_cons_zero]
      refine twoH 10 14 (by kernel_rfl) rfl rfl rfl rfl (fun K hK => ?_) (fun K hK => ?_)
      · go_simp
        refine (HRG.out v1 (.slice sa n sc) SSv1.out).mono ?_
        rintro e v2 ⟨ho, hb⟩
        have Sv2 := Lib.hid (stay Sv1.out hb)
        rcases ho with ⟨hr, rfl⟩ | ⟨iv, pl, av, hr, rfl, hi, ha, hj, hf1, hf2⟩
        · have HRN := Lib.hid hr
          refine hK _ _ Sv2.out ?_
          clear hK K hb hr
          try simp only [Act.put, List.setIfInBounds_toArray, List.set_cons_succ, List.set_cons_zero]
          refine takeH 11 (some 19) (.tuple #[.agg #[.slice none 0 0, .slice none 0 0, .int .i64 0, .int .i64 0], .bool false]) rfl rfl (by kernel_rfl) (by kernel_rfl) (by kernel_rfl) (fun _ _ _ h => h) rfl (fun wq hS => by go_simp) Sv2.out ?_
          try simp only [Act.put, List.setIfInBounds_toArray, List.set_cons_succ, List.set_cons_zero]
          refine takeH 12 (some 31) (.agg #[.slice none 0 0, .slice none 0 0, .int .i64 0, .int .i64 0]) rfl rfl (by kernel_rfl) (by kernel_rfl) (by kernel_rfl) (fun _ _ _ h => h) rfl (fun wq hS => by go_simp) Sv2.out ?_
          try simp only [Act.put, List.setIfInBounds_toArray, List.set_cons_succ, List.set_cons_zero]
          refine takeH 13 (some 32) (.bool false) rfl rfl (by kernel_rfl) (by kernel_rfl) (by kernel_rfl) (fun _ _ _ h => h) rfl (fun wq hS => by go_simp) Sv2.out ?_
          try simp only [Act.put, List.setIfInBounds_toArray, List.set_cons_succ, List.set_cons_zero]
          refine oneH 14 (by kernel_rfl) rfl rfl fun K hK => ?_
          refine wp_runTo (some 10) rfl _ _ (exec_alloc _ _ _ 135 rfl _ zero135) ?_
          have hb := (Below.refl v2.heap.size v2).alloc (Nat.le_refl _) (.cells #[.slice none 0 0, .slice none 0 0, .int .i64 0, .int .i64 0] 135)
          have hkb := Blk.new v2 #[.slice none 0 0, .slice none 0 0, .int .i64 0, .int .i64 0] 135
          have Sv3 := Lib.hid (stay Sv2.out hb)
          have Kv3 := Lib.hid hkb
          have KL : Hid (wc.heap.size ≤ v2.heap.size) := Lib.hid Sv2.out.size
          refine hK _ _ Sv3.out ?_
          clear hK K hb hkb
          generalize v2.alloc (.cells #[.slice none 0 0, .slice none 0 0, .int .i64 0, .int .i64 0] 135) = v3 at *
          generalize v2.heap.size = kB at *
          try simp only [Act.put, List.setIfInBounds_toArray, List.set_cons_succ, List.set_cons_zero]
          refine oneH 15 (by kernel_rfl) rfl rfl fun K hK => ?_
          refine wp_store_all 135 _ _ rfl kB #[.slice none 0 0, .slice none 0 0, .int .i64 0, .int .i64 0] rfl rfl _ Kv3.out rfl info135 (four_one none none 0 0 0 0 0 0) ?_
          intro wz hD hO
          have SZ : Hid (Below wc.heap.size wc wz) := Lib.hid (Sv3.out.trans (hO.below Sv3.out.size fun k hk => by rw [hk]; exact KL.out))
          have HD := Lib.hid hD
          refine hK _ _ SZ.out ?_
          clear hK K hD hO
          try simp only [Act.put, List.setIfInBounds_toArray, List.set_cons_succ, List.set_cons_zero]
          refine takeH 16 (some 11) (.bool false) rfl rfl (by kernel_rfl) (by kernel_rfl) (by kernel_rfl) (fun _ _ _ h => h) rfl (fun wq hS => by go_simp) SZ.out ?_
          try simp only [Act.put, List.setIfInBounds_toArray, List.set_cons_succ, List.set_cons_zero]
          refine wpAnyH_done (by kernel_rfl) ?_ _
          go_wp2_with fail
          go_meet
          exact ⟨kB, false, rfl, rfl, SZ.out, KL.out, .inl ⟨HRN.out, rfl⟩, ⟨_, HD.out, rfl⟩⟩
        · have HRN := Lib.hid hr
          obtain ⟨ia, c1, hiv⟩ := items_one hi
          obtain ⟨aa, c2, hav⟩ := ha.form
          obtain ⟨n1, hn1⟩ : ∃ m, pl.length = m := ⟨_, rfl⟩
          rw [hn1] at hiv
          subst hiv
          rw [lay2_at, List.length_map, hn1] at hav
          subst hav
          have HN1 : Hid (n1 = pl.length) := Lib.hid hn1.symm
          have HI := Lib.hid hi
          have HN := Lib.hid ha
          have HFF : Hid (Fresh wc.heap.size (.slice ia n1 c1) ∧ ∀ x ∈ pl, Fresh wc.heap.size x.2) := Lib.hid ⟨fun b o n c e => Nat.le_trans Sv1.out.size (hf1 b o n c e), fun x hx b o n c e => Nat.le_trans Sv1.out.size (hf2 x hx b o n c e)⟩
          clear hf1 hf2
          have HJ : Hid (∀ j, Value.ownBlock (.slice aa n1 c2) = some j → wc.heap.size ≤ j ∧ v1.heap.size ≤ j ∧ j < v2.heap.size) := Lib.hid fun j hj2 => ⟨Nat.le_trans Sv1.out.size (hj j hj2), hj j hj2, ha.own_lt (by rw [lay2_at]; exact (mayBe_iff.1 (HMB.out _ hr)).1) j hj2⟩
          refine hK _ _ Sv2.out ?_
          clear hK K hb hr hi ha hj hn1
          try simp only [Act.put, List.setIfInBounds_toArray, List.set_cons_succ, List.set_cons_zero]
          refine takeH 11 (some 19) (.tuple #[.agg #[.slice ia n1 c1, .slice aa n1 c2, .int .i64 (lay2 a.seq (pl.map (·.1))).1.length, .int .i64 (parts pl.length)], .bool true]) rfl rfl (by kernel_rfl) (by kernel_rfl) (by kernel_rfl) (fun _ _ _ h => h) rfl (fun wq hS => by go_simp) Sv2.out ?_
          try simp only [Act.put, List.setIfInBounds_toArray, List.set_cons_succ, List.set_cons_zero]
          refine takeH 12 (some 31) (.agg #[.slice ia n1 c1, .slice aa n1 c2, .int .i64 (lay2 a.seq (pl.map (·.1))).1.length, .int .i64 (parts pl.length)]) rfl rfl (by kernel_rfl) (by kernel_rfl) (by kernel_rfl) (fun _ _ _ h => h) rfl (fun wq hS => by go_simp) Sv2.out ?_
          try simp only [Act.put, List.setIfInBounds_toArray, List.set_cons_succ, List.set_cons_zero]
          refine takeH 13 (some 32) (.bool true) rfl rfl (by kernel_rfl) (by kernel_rfl) (by kernel_rfl) (fun _ _ _ h => h) rfl (fun wq hS => by go_simp) Sv2.out ?_
          try simp only [Act.put, List.setIfInBounds_toArray, List.set_cons_succ, List.set_cons_zero]
          refine oneH 14 (by kernel_rfl) rfl rfl fun K hK => ?_
          refine wp_runTo (some 10) rfl _ _ (exec_alloc _ _ _ 135 rfl _ zero135) ?_
          have hb := (Below.refl v2.heap.size v2).alloc (Nat.le_refl _) (.cells #[.slice none 0 0, .slice none 0 0, .int .i64 0, .int .i64 0] 135)
          have hkb := Blk.new v2 #[.slice none 0 0, .slice none 0 0, .int .i64 0, .int .i64 0] 135
          have Sv4 := Lib.hid (stay Sv2.out hb)
          have Kv4 := Lib.hid hkb
          have KL : Hid (wc.heap.size ≤ v2.heap.size) := Lib.hid Sv2.out.size
          have HJk : Hid (∀ j, Value.ownBlock (.slice aa n1 c2) = some j → j ≠ v2.heap.size ∧ wc.heap.size ≤ j ∧ j < (v2.alloc (.cells #[.slice none 0 0, .slice none 0 0, .int .i64 0, .int .i64 0] 135)).heap.size) := Lib.hid fun j hj => by have h1 := HJ.out j hj; have h2 := hb.size; omega
          have HI2 := Lib.hid (HI.out.below hb)
          have HN2 := Lib.hid (HN.out.below hb)
          refine hK _ _ Sv4.out ?_
          clear hK K hb hkb
          generalize v2.alloc (.cells #[.slice none 0 0, .slice none 0 0, .int .i64 0, .int .i64 0] 135) = v4 at *
          generalize v2.heap.size = kB at *
          try simp only [Act.put, List.setIfInBounds_toArray, List.set_cons_succ, List.set_cons_zero]
          refine oneH 15 (by kernel_rfl) rfl rfl fun K hK => ?_
          refine wp_store_all 135 _ _ rfl kB #[.slice ia n1 c1, .slice aa n1 c2, .int .i64 (lay2 a.seq (pl.map (·.1))).1.length, .int .i64 (parts pl.length)] rfl rfl _ Kv4.out rfl info135 (four_one _ _ _ _ _ _ _ _) ?_
          intro wz hD hO
          have SZ : Hid (Below wc.heap.size wc wz) := Lib.hid (Sv4.out.trans (hO.below Sv4.out.size fun k hk => by rw [hk]; exact KL.out))
          have HD := Lib.hid hD
          have HIz := Lib.hid (HI2.out.only Kv4.out (noIt4 none none 0 0 0 0 0 0) hO)
          have HNz := Lib.hid (HN2.out.only hO fun b o n c e => (HJk.out b (by rw [e]; rfl)).1)
          have HJz : Hid (∀ j, Value.ownBlock (.slice aa n1 c2) = some j → wc.heap.size ≤ j ∧ j < wz.heap.size) := Lib.hid fun j hj => by have h1 := HJk.out j hj; have h2 := hO.size; omega
          refine hK _ _ SZ.out ?_
          clear hK K hD hO
          try simp only [Act.put, List.setIfInBounds_toArray, List.set_cons_succ, List.set_cons_zero]
          refine takeH 16 (some 11) (.bool true) rfl rfl (by kernel_rfl) (by kernel_rfl) (by kernel_rfl) (fun _ _ _ h => h) rfl (fun wq hS => by go_simp) SZ.out ?_
          try simp only [Act.put, List.setIfInBounds_toArray, List.set_cons_succ, List.set_cons_zero]
          refine wpAnyH_done (by kernel_rfl) ?_ _
          go_wp2_with fail
          go_meet
          exact ⟨kB, true, rfl, rfl, SZ.out, KL.out, .inr ⟨ia, n1, c1, aa, c2, pl, HRN.out, rfl, HN1.out, HD.out, HIz.out, HNz.out, HJz.out, HFF.out.1, HFF.out.2⟩, ⟨_, HD.out, rfl⟩⟩
      · refine wp_runTo (some 10) rfl _ _ (exec_alloc _ _ _ 135 rfl _ zero135) ?_
        have hb := (Below.refl v1.heap.size v1).alloc (Nat.le_refl _) (.cells #[.slice none 0 0, .slice none 0 0, .int .i64 0, .int .i64 0] 135)
        have hkb := Blk.new v1 #[.slice none 0 0, .slice none 0 0, .int .i64 0, .int .i64 0] 135
        have Sv5 := Lib.hid (stay Sv1.out hb)
        have Kv5 := Lib.hid hkb
        have KL : Hid (wc.heap.size ≤ v1.heap.size) := Lib.hid Sv1.out.size
        have SSv5 := Lib.hid (SSv1.out.below hb)
        refine hK _ _ Sv5.out ?_
        clear hK K hb hkb
        generalize v1.alloc (.cells #[.slice none 0 0, .slice none 0 0, .int .i64 0, .int .i64 0] 135) = v5 at *
        generalize v1.heap.size = kB at *
        try simp only [Act.put, List.setIfInBounds_toArray, List.set_cons_succ, List.set_cons_zero]
        refine oneH 10 (by kernel_rfl) rfl rfl fun K hK => ?_
        go_simp
        refine (HRG.out v5 (.slice sa n sc) SSv5.out).mono ?_
        rintro e v6 ⟨ho, hb⟩
        have Sv6 := Lib.hid (stay Sv5.out hb)
        have Kv6 := Lib.hid (Kv5.out.below hb Kv5.out.lt)
        rcases ho with ⟨hr, rfl⟩ | ⟨iv, pl, av, hr, rfl, hi, ha, hj, hf1, hf2⟩
        · have HRN := Lib.hid hr
          refine hK _ _ Sv6.out ?_
          clear hK K hb hr
          try simp only [Act.put, List.setIfInBounds_toArray, List.set_cons_succ, List.set_cons_zero]
          refine takeH 11 (some 19) (.tuple #[.agg #[.slice none 0 0, .slice none 0 0, .int .i64 0, .int .i64 0], .bool false]) rfl rfl (by kernel_rfl) (by kernel_rfl) (by kernel_rfl) (fun _ _ _ h => h) rfl (fun wq hS => by go_simp) Sv6.out ?_
          try simp only [Act.put, List.setIfInBounds_toArray, List.set_cons_succ, List.set_cons_zero]
          refine takeH 12 (some 31) (.agg #[.slice none 0 0, .slice none 0 0, .int .i64 0, .int .i64 0]) rfl rfl (by kernel_rfl) (by kernel_rfl) (by kernel_rfl) (fun _ _ _ h => h) rfl (fun wq hS => by go_simp) Sv6.out ?_
          try simp only [Act.put, List.setIfInBounds_toArray, List.set_cons_succ, List.set_cons_zero]
          refine takeH 13 (some 32) (.bool false) rfl rfl (by kernel_rfl) (by kernel_rfl) (by kernel_rfl) (fun _ _ _ h => h) rfl (fun wq hS => by go_simp) Sv6.out ?_
          try simp only [Act.put, List.setIfInBounds_toArray, List.set_cons_succ, List.set_cons_zero]
          refine oneH 15 (by kernel_rfl) rfl rfl fun K hK => ?_
          refine wp_store_all 135 _ _ rfl kB #[.slice none 0 0, .slice none 0 0, .int .i64 0, .int .i64 0] rfl rfl _ Kv6.out rfl info135 (four_one none none 0 0 0 0 0 0) ?_
          intro wz hD hO
          have SZ : Hid (Below wc.heap.size wc wz) := Lib.hid (Sv6.out.trans (hO.below Sv6.out.size fun k hk => by rw [hk]; exact KL.out))
          have HD := Lib.hid hD
          refine hK _ _ SZ.out ?_
          clear hK K hD hO
          try simp only [Act.put, List.setIfInBounds_toArray, List.set_cons_succ, List.set_cons_zero]
          refine takeH 16 (some 11) (.bool false) rfl rfl (by kernel_rfl) (by kernel_rfl) (by kernel_rfl) (fun _ _ _ h => h) rfl (fun wq hS => by go_simp) SZ.out ?_
          try simp only [Act.put, List.setIfInBounds_toArray, List.set_cons_succ, List.set_cons_zero]
          refine wpAnyH_done (by kernel_rfl) ?_ _
          go_wp2_with fail
          go_meet
          exact ⟨kB, false, rfl, rfl, SZ.out, KL.out, .inl ⟨HRN.out, rfl⟩, ⟨_, HD.out, rfl⟩⟩
        · have HRN := Lib.hid hr
          obtain ⟨ia, c1, hiv⟩ := items_one hi
          obtain ⟨aa, c2, hav⟩ := ha.form
          obtain ⟨n1, hn1⟩ : ∃ m, pl.length = m := ⟨_, rfl⟩
          rw [hn1] at hiv
          subst hiv
          rw [lay2_at, List.length_map, hn1] at hav
          subst hav
          have HN1 : Hid (n1 = pl.length) := Lib.hid hn1.symm
          have HI := Lib.hid hi
          have HN := Lib.hid ha
          have HFF : Hid (Fresh wc.heap.size (.slice ia n1 c1) ∧ ∀ x ∈ pl, Fresh wc.heap.size x.2) := Lib.hid ⟨fun b o n c e => Nat.le_trans Sv5.out.size (hf1 b o n c e), fun x hx b o n c e => Nat.le_trans Sv5.out.size (hf2 x hx b o n c e)⟩
          clear hf1 hf2
          have HJ : Hid (∀ j, Value.ownBlock (.slice aa n1 c2) = some j → wc.heap.size ≤ j ∧ v5.heap.size ≤ j ∧ j < v6.heap.size) := Lib.hid fun j hj2 => ⟨Nat.le_trans Sv5.out.size (hj j hj2), hj j hj2, ha.own_lt (by rw [lay2_at]; exact (mayBe_iff.1 (HMB.out _ hr)).1) j hj2⟩
          refine hK _ _ Sv6.out ?_
          clear hK K hb hr hi ha hj hn1
          try simp only [Act.put, List.setIfInBounds_toArray, List.set_cons_succ, List.set_cons_zero]
          refine takeH 11 (some 19) (.tuple #[.agg #[.slice ia n1 c1, .slice aa n1 c2, .int .i64 (lay2 a.seq (pl.map (·.1))).1.length, .int .i64 (parts pl.length)], .bool true]) rfl rfl (by kernel_rfl) (by kernel_rfl) (by kernel_rfl) (fun _ _ _ h => h) rfl (fun wq hS => by go_simp) Sv6.out ?_
          try simp only [Act.put, List.setIfInBounds_toArray, List.set_cons_succ, List.set_cons_zero]
          refine takeH 12 (some 31) (.agg #[.slice ia n1 c1, .slice aa n1 c2, .int .i64 (lay2 a.seq (pl.map (·.1))).1.length, .int .i64 (parts pl.length)]) rfl rfl (by kernel_rfl) (by kernel_rfl) (by kernel_rfl) (fun _ _ _ h => h) rfl (fun wq hS => by go_simp) Sv6.out ?_
          try simp only [Act.put, List.setIfInBounds_toArray, List.set_cons_succ, List.set_cons_zero]
          refine takeH 13 (some 32) (.bool true) rfl rfl (by kernel_rfl) (by kernel_rfl) (by kernel_rfl) (fun _ _ _ h => h) rfl (fun wq hS => by go_simp) Sv6.out ?_
          try simp only [Act.put, List.setIfInBounds_toArray, List.set_cons_succ, List.set_cons_zero]
          have HJk : Hid (∀ j, Value.ownBlock (.slice aa n1 c2) = some j → j ≠ kB ∧ wc.heap.size ≤ j ∧ j < v6.heap.size) := Lib.hid fun j hj => by have h1 := HJ.out j hj; have h2 := Kv5.out.lt; have h3 := KL.out; omega
          have HI2 := HI
          have HN2 := HN
          refine oneH 15 (by kernel_rfl) rfl rfl fun K hK => ?_
          refine wp_store_all 135 _ _ rfl kB #[.slice ia n1 c1, .slice aa n1 c2, .int .i64 (lay2 a.seq (pl.map (·.1))).1.length, .int .i64 (parts pl.length)] rfl rfl _ Kv6.out rfl info135 (four_one _ _ _ _ _ _ _ _) ?_
          intro wz hD hO
          have SZ : Hid (Below wc.heap.size wc wz) := Lib.hid (Sv6.out.trans (hO.below Sv6.out.size fun k hk => by rw [hk]; exact KL.out))
          have HD := Lib.hid hD
          have HIz := Lib.hid (HI2.out.only Kv6.out (noIt4 none none 0 0 0 0 0 0) hO)
          have HNz := Lib.hid (HN2.out.only hO fun b o n c e => (HJk.out b (by rw [e]; rfl)).1)
          have HJz : Hid (∀ j, Value.ownBlock (.slice aa n1 c2) = some j → wc.heap.size ≤ j ∧ j < wz.heap.size) := Lib.hid fun j hj => by have h1 := HJk.out j hj; have h2 := hO.size; omega
          refine hK _ _ SZ.out ?_
          clear hK K hD hO
          try simp only [Act.put, List.setIfInBounds_toArray, List.set_cons_succ, List.set_cons_zero]
          refine takeH 16 (some 11) (.bool true) rfl rfl (by kernel_rfl) (by kernel_rfl) (by kernel_rfl) (fun _ _ _ h => h) rfl (fun wq hS => by go_simp) SZ.out ?_
          try simp only [Act.put, List.setIfInBounds_toArray, List.set_cons_succ, List.set_cons_zero]
          refine wpAnyH_done (by kernel_rfl) ?_ _
          go_wp2_with fail
          go_meet
          exact ⟨kB, true, rfl, rfl, SZ.out, KL.out, .inr ⟨ia, n1, c1, aa, c2, pl, HRN.out, rfl, HN1.out, HD.out, HIz.out, HNz.out, HJz.out, HFF.out.1, HFF.out.2⟩, ⟨_, HD.out, rfl⟩⟩
    · refine wp_runTo (some 10) rfl _ _ (exec_alloc _ _ _ 135 rfl _ zero135) ?_
      have hb := (Below.refl wS.heap.size wS).alloc (Nat.le_refl _) (.cells #[.slice none 0 0, .slice none 0 0, .int .i64 0, .int .i64 0] 135)
      have hkb := Blk.new wS #[.slice none 0 0, .slice none 0 0, .int .i64 0, .int .i64 0] 135
      have Sv7 := Lib.hid (stay HSd.out hb)
      have Kv7 := Lib.hid hkb
      have KL : Hid (wc.heap.size ≤ wS.heap.size) := Lib.hid HSd.out.size
      refine hK _ _ Sv7.out ?_
      clear hK K hb hkb
      generalize wS.alloc (.cells #[.slice none 0 0, .slice none 0 0, .int .i64 0, .int .i64 0] 135) = v7 at *
      generalize wS.heap.size = kB at *
      try simp only [Act.put, List.setIfInBounds_toArray, List.set_cons_succ, List.set_cons_zero]
      refine oneH 9 (by kernel_rfl) rfl rfl fun K hK => ?_
      go_simp
      refine (HSE.out v7 (stay HB4.out Sv7.out)).mono ?_
      rintro e v8 ⟨sv, rfl, hs, hb⟩
      have Sv8 := Lib.hid (stay Sv7.out hb)
      have SSv8 := Lib.hid hs
      have Kv8 := Lib.hid (Kv7.out.below hb Kv7.out.lt)
      obtain ⟨sa, sc, hsv, -⟩ := id hs
      rw [HLN.out] at hsv
      subst hsv
      refine hK _ _ Sv8.out ?_
      clear hK K hb hs
      try simp only [Act.put, List.setIfInBounds_toArray, List.set_cons_succ, List.set_cons_zero]
      refine oneH 10 (by kernel_rfl) rfl rfl fun K hK => ?_
      go_simp
      refine (HRG.out v8 (.slice sa n sc) SSv8.out).mono ?_
      rintro e v9 ⟨ho, hb⟩
      have Sv9 := Lib.hid (stay Sv8.out hb)
      have Kv9 := Lib.hid (Kv8.out.below hb Kv8.out.lt)
      rcases ho with ⟨hr, rfl⟩ | ⟨iv, pl, av, hr, rfl, hi, ha, hj, hf1, hf2⟩
      · have HRN := Lib.hid hr
        refine hK _ _ Sv9.out ?_
        clear hK K hb hr
        try simp only [Act.put, List.setIfInBounds_toArray, List.set_cons_succ, List.set_cons_zero]
        refine takeH 11 (some 19) (.tuple #[.agg #[.slice none 0 0, .slice none 0 0, .int .i64 0, .int .i64 0], .bool false]) rfl rfl (by kernel_rfl) (by kernel_rfl) (by kernel_rfl) (fun _ _ _ h => h) rfl (fun wq hS => by go_simp) Sv9.out ?_
        try simp only [Act.put, List.setIfInBounds_toArray, List.set_cons_succ, List.set_cons_zero]
        refine takeH 12 (some 31) (.agg #[.slice none 0 0, .slice none 0 0, .int .i64 0, .int .i64 0]) rfl rfl (by kernel_rfl) (by kernel_rfl) (by kernel_rfl) (fun _ _ _ h => h) rfl (fun wq hS => by go_simp) Sv9.out ?_
        try simp only [Act.put, List.setIfInBounds_toArray, List.set_cons_succ, List.set_cons_zero]
        refine takeH 13 (some 32) (.bool false) rfl rfl (by kernel_rfl) (by kernel_rfl) (by kernel_rfl) (fun _ _ _ h => h) rfl (fun wq hS => by go_simp) Sv9.out ?_
        try simp only [Act.put, List.setIfInBounds_toArray, List.set_cons_succ, List.set_cons_zero]
        refine oneH 15 (by kernel_rfl) rfl rfl fun K hK => ?_
        refine wp_store_all 135 _ _ rfl kB #[.slice none 0 0, .slice none 0 0, .int .i64 0, .int .i64 0] rfl rfl _ Kv9.out rfl info135 (four_one none none 0 0 0 0 0 0) ?_
        intro wz hD hO
        have SZ : Hid (Below wc.heap.size wc wz) := Lib.hid (Sv9.out.trans (hO.below Sv9.out.size fun k hk => by rw [hk]; exact KL.out))
        have HD := Lib.hid hD
        refine hK _ _ SZ.out ?_
        clear hK K hD hO
        try simp only [Act.put, List.setIfInBounds_toArray, List.set_cons_succ, List.set_cons_zero]
        refine takeH 16 (some 11) (.bool false) rfl rfl (by kernel_rfl) (by kernel_rfl) (by kernel_rfl) (fun _ _ _ h => h) rfl (fun wq hS => by go_simp) SZ.out ?_
        try simp only [Act.put, List.setIfInBounds_toArray, List.set_cons_succ, List.set_cons_zero]
        refine wpAnyH_done (by kernel_rfl) ?_ _
        go_wp2_with fail
        go_meet
        exact ⟨kB, false, rfl, rfl, SZ.out, KL.out, .inl ⟨HRN.out, rfl⟩, ⟨_, HD.out, rfl⟩⟩
      · have HRN := Lib.hid hr
        obtain ⟨ia, c1, hiv⟩ := items_one hi
        obtain ⟨aa, c2, hav⟩ := ha.form
        obtain ⟨n1, hn1⟩ : ∃ m, pl.length = m := ⟨_, rfl⟩
        rw [hn1] at hiv
        subst hiv
        rw [lay2_at, List.length_map, hn1] at hav
        subst hav
        have HN1 : Hid (n1 = pl.length) := Lib.hid hn1.symm
        have HI := Lib.hid hi
        have HN := Lib.hid ha
        have HFF : Hid (Fresh wc.heap.size (.slice ia n1 c1) ∧ ∀ x ∈ pl, Fresh wc.heap.size x.2) := Lib.hid ⟨fun b o n c e => Nat.le_trans Sv8.out.size (hf1 b o n c e), fun x hx b o n c e => Nat.le_trans Sv8.out.size (hf2 x hx b o n c e)⟩
        clear hf1 hf2
        have HJ : Hid (∀ j, Value.ownBlock (.slice aa n1 c2) = some j → wc.heap.size ≤ j ∧ v8.heap.size ≤ j ∧ j < v9.heap.size) := Lib.hid fun j hj2 => ⟨Nat.le_trans Sv8.out.size (hj j hj2), hj j hj2, ha.own_lt (by rw [lay2_at]; exact (mayBe_iff.1 (HMB.out _ hr)).1) j hj2⟩
        refine hK _ _ Sv9.out ?_
        clear hK K hb hr hi ha hj hn1
        try simp only [Act.put, List.setIfInBounds_toArray, List.set_cons_succ, List.set_cons_zero]
        refine takeH 11 (some 19) (.tuple #[.agg #[.slice ia n1 c1, .slice aa n1 c2, .int .i64 (lay2 a.seq (pl.map (·.1))).1.length, .int .i64 (parts pl.length)], .bool true]) rfl rfl (by kernel_rfl) (by kernel_rfl) (by kernel_rfl) (fun _ _ _ h => h) rfl (fun wq hS => by go_simp) Sv9.out ?_
        try simp only [Act.put, List.setIfInBounds_toArray, List.set_cons_succ, List.set_cons_zero]
        refine takeH 12 (some 31) (.agg #[.slice ia n1 c1, .slice aa n1 c2, .int .i64 (lay2 a.seq (pl.map (·.1))).1.length, .int .i64 (parts pl.length)]) rfl rfl (by kernel_rfl) (by kernel_rfl) (by kernel_rfl) (fun _ _ _ h => h) rfl (fun wq hS => by go_simp) Sv9.out ?_
        try simp only [Act.put, List.setIfInBounds_toArray, List.set_cons_succ, List.set_cons_zero]
        refine takeH 13 (some 32) (.bool true) rfl rfl (by kernel_rfl) (by kernel_rfl) (by kernel_rfl) (fun _ _ _ h => h) rfl (fun wq hS => by go_simp) Sv9.out ?_
        try simp only [Act.put, List.setIfInBounds_toArray, List.set_cons_succ, List.set_cons_zero]
        have HJk : Hid (∀ j, Value.ownBlock (.slice aa n1 c2) = some j → j ≠ kB ∧ wc.heap.size ≤ j ∧ j < v9.heap.size) := Lib.hid fun j hj => by have h1 := HJ.out j hj; have h2 := Kv8.out.lt; have h3 := KL.out; omega
        have HI2 := HI
        have HN2 := HN
        refine oneH 15 (by kernel_rfl) rfl rfl fun K hK => ?_
        refine wp_store_all 135 _ _ rfl kB #[.slice ia n1 c1, .slice aa n1 c2, .int .i64 (lay2 a.seq (pl.map (·.1))).1.length, .int .i64 (parts pl.length)] rfl rfl _ Kv9.out rfl info135 (four_one _ _ _ _ _ _ _ _) ?_
        intro wz hD hO
        have SZ : Hid (Below wc.heap.size wc wz) := Lib.hid (Sv9.out.trans (hO.below Sv9.out.size fun k hk => by rw [hk]; exact KL.out))
        have HD := Lib.hid hD
        have HIz := Lib.hid (HI2.out.only Kv9.out (noIt4 none none 0 0 0 0 0 0) hO)
        have HNz := Lib.hid (HN2.out.only hO fun b o n c e => (HJk.out b (by rw [e]; rfl)).1)
        have HJz : Hid (∀ j, Value.ownBlock (.slice aa n1 c2) = some j → wc.heap.size ≤ j ∧ j < wz.heap.size) := Lib.hid fun j hj => by have h1 := HJk.out j hj; have h2 := hO.size; omega
        refine hK _ _ SZ.out ?_
        clear hK K hD hO
        try simp only [Act.put, List.setIfInBounds_toArray, List.set_cons_succ, List.set_cons_zero]
        refine takeH 16 (some 11) (.bool true) rfl rfl (by kernel_rfl) (by kernel_rfl) (by kernel_rfl) (fun _ _ _ h => h) rfl (fun wq hS => by go_simp) SZ.out ?_
        try simp only [Act.put, List.setIfInBounds_toArray, List.set_cons_succ, List.set_cons_zero]
        refine wpAnyH_done (by kernel_rfl) ?_ _
        go_wp2_with fail
        go_meet
        exact ⟨kB, true, rfl, rfl, SZ.out, KL.out, .inr ⟨ia, n1, c1, aa, c2, pl, HRN.out, rfl, HN1.out, HD.out, HIz.out, HNz.out, HJz.out, HFF.out.1, HFF.out.2⟩, ⟨_, HD.out, rfl⟩⟩
  case rest =>
  obtain ⟨kB, ok, rfl, rfl, hb, hk, hr, -⟩ := hcut
  have HM6 := Lib.hid (HM5.out.below hb)
  have HB6 := Lib.hid (stay HB4.out hb)
  have HF6 := Lib.hid (HFV.out.below HB6.out)
  have HKB := Lib.hid hk
  have HML := Lib.hid HM5.out.lt.2.2.2.2
  have hcs := hb.size
  clear hb hk HM5 HB4 HFV
  rcases hr with ⟨hr, rfl⟩ | ⟨ia, n1, c1, aa, c2, pl, hr, rfl, hn1, hkb, hi, ha, hj, hfi⟩
  · have HRN := Lib.hid hr
    clear hr hcs
    go_upto_region 4 with fail
    refine wp_region_lit ?_
    refine build_g (run_build _ 55 _ _ built55z) rfl ?_
    try simp only [Act.put, List.setIfInBounds_toArray, List.set_cons_succ, List.set_cons_zero]
    refine build_g (run_build _ 40 _ _ built40z) rfl ?_
    try simp only [Act.put, List.setIfInBounds_toArray, List.set_cons_succ, List.set_cons_zero]
    refine wpList_op rfl fun K hK => ?_
    go_simp
    refine (HNF.out _ _).mono ?_
    rintro e w7 ⟨v, rfl, hf, hb⟩
    have HF7 := Lib.hid hf
    have HM7 := Lib.hid (HM6.out.below hb)
    clear hf hb HM6 HB6 HF6
    refine hK _ _ ?_
    clear hK K
    try simp only [Act.put, List.setIfInBounds_toArray, List.set_cons_succ, List.set_cons_zero]
    refine store_all (cs := #[.slice none 0 0, .slice none 0 0]) HM7.out.rb rfl info55 (gr_one none none 0 0 0 0) rfl rfl rfl ?_
    intro w8 hD hO hlD
    have HF8 := Lib.hid (HF7.out.onlyB hO HM7.out.rb (fun t => by simp))
    have HM8 := Lib.hid (HM7.out.setR hO hD)
    clear hD hO hlD HF7 HM7
    try simp only [Act.put, List.setIfInBounds_toArray, List.set_cons_succ, List.set_cons_zero]
    refine store_all (cs := #[.int .i64 0, .int .i64 0, .int .u32 0, .slice none 0 0]) HM8.out.tb rfl info40 (at_one _ _ _ _ _ _) rfl rfl rfl ?_
    intro w9 hD hO hlD
    have HF9 := Lib.hid (HF8.out.onlyB hO HM8.out.tb (fun t => by simp))
    have HM9 := Lib.hid (HM8.out.setT hO hD)
    clear hD hO hlD HF8 HM8
    try simp only [Act.put, List.setIfInBounds_toArray, List.set_cons_succ, List.set_cons_zero]
    obtain ⟨T, dd, hv⟩ := HF9.out.shape
    subst hv
    refine takeL (.iface T dd) rfl (by go_simp) ?_
    try simp only [Act.put, List.setIfInBounds_toArray, List.set_cons_succ, List.set_cons_zero]
    refine wpList_nil ?_
    go_wp2_with fail
    refine bodyPost_ret (v := .tuple #[.agg #[.slice none 0 0, .slice none 0 0], .agg #[.int .i64 0, .int .i64 0, .int .u32 0, .slice none 0 0], .iface T dd]) (results_cct rfl _ _ rB tB #[.slice none 0 0, .slice none 0 0] #[.int .i64 0, .int .i64 0, .int .u32 0, .slice none 0 0] _ _ (.iface T dd) rfl rfl rfl Tryz.underlying55 Tryz.underlying40 rfl rfl info55 info40 (HM9.out.rb.all rfl) (HM9.out.tb.all rfl)) rfl ⟨.inl ⟨HRN.out, _, rfl, HF9.out⟩, HGB.out ▸ HM9.out.bel⟩
  · have HRN := Lib.hid hr
    have hmb := HMB.out _ hr
    have HN1 := Lib.hid hn1
    have HK6 := Lib.hid hkb
    have HI6 := Lib.hid hi
    have HA6 := Lib.hid ha
    have HJ6 := Lib.hid hj
    have h64 := (mayBe_iff.1 hmb).2.1
    rw [List.length_map] at h64
    have HMAY := Lib.hid hmb
    have HFF : Hid (Fresh gB (.slice ia n1 c1) ∧ ∀ x ∈ pl, Fresh gB x.2) := Lib.hid (by
      have h1 := HM6.out.lt
      have h2 := HML.out
      exact ⟨fun b o n c e => by have := hfi.1 b o n c e; omega, fun x hx b o n c e => by have := hfi.2 x hx b o n c e; omega⟩)
    clear hfi
    obtain ⟨k, hk⟩ : ∃ k, (lay2 a.seq (pl.map (·.1))).1.length = k := ⟨_, rfl⟩
    have HLK : Hid (k ≤ 1000) := Lib.hid (by
      have h1 := lay2_length a.seq (pl.map (·.1))
      have h2 := blocks_le (marks (pl.map (·.1)))
      have h3 : parts (pl.map (·.1)).length ≤ 3 := (parts_pos hmb).2
      rw [List.length_map, List.length_map] at h2
      omega)
    have HK := Lib.hid hk
    rw [hk] at HK6
    obtain ⟨q, hq⟩ : ∃ q, parts pl.length = q := ⟨_, rfl⟩
    rw [hq] at HK6
    have HQ : Hid (partsN (pl.map (·.1)) = (q : Int) ∧ q ≤ 3) := Lib.hid (by
      have h3 := (parts_pos hmb).2
      unfold partsN
      rw [if_pos hmb, ← hq]
      rw [List.length_map] at h3 ⊢
      exact ⟨rfl, h3⟩)
    have HPL := Lib.hid fun w' h => splaces_any (w := w') (f : Int) (lay2 a.seq (pl.map (·.1))).2 (.slice aa n1 c2) h (by rw [lay2_at, List.length_map]; omega) HFS.out (fun x hx => by
      have h1 := lay2_mem hx
      have h2 := HLK.out
      rw [hk] at h1
      omega)
    clear hr hmb hn1 hkb hi ha hj h64 hk hq hcs
    go_upto_region 5 with fail
    refine wp_region_lit ?_
    refine takeL (.pointer (some ⟨aB, 1, none⟩)) rfl (by go_simp) ?_
    try simp only [Act.put, List.setIfInBounds_toArray, List.set_cons_succ, List.set_cons_zero]
    refine takeL (.int .i64 a.off) rfl (by have q := HM6.out.ab.cell (i := 1) rfl; go_simp) ?_
    try simp only [Act.put, List.setIfInBounds_toArray, List.set_cons_succ, List.set_cons_zero]
    refine takeL (.pointer (some ⟨kB, 2, none⟩)) rfl (by go_simp) ?_
    try simp only [Act.put, List.setIfInBounds_toArray, List.set_cons_succ, List.set_cons_zero]
    refine takeL (.int .i64 (k : Int)) rfl (by have q := HK6.out.cell (i := 2) rfl; go_simp) ?_
    try simp only [Act.put, List.setIfInBounds_toArray, List.set_cons_succ, List.set_cons_zero]
    refine takeL (.int .i64 (a.off + (k : Int))) rfl (by have q := gw2.out k HLK.out; go_simp) ?_
    try simp only [Act.put, List.setIfInBounds_toArray, List.set_cons_succ, List.set_cons_zero]
    refine takeL (.pointer (some ⟨aB, 1, none⟩)) rfl (by go_simp) ?_
    try simp only [Act.put, List.setIfInBounds_toArray, List.set_cons_succ, List.set_cons_zero]
    refine skipL (wc.setCell ⟨aB, 1, none⟩ (.int .i64 (a.off + (k : Int)))) rfl (by have q := HM6.out.ab.cell (i := 1) rfl; have fz := HM6.out.ab.frozen 1; go_simp) ?_
    have HNEK : Hid (aB ≠ kB ∧ rB ≠ kB ∧ tB ≠ kB) := Lib.hid (by have h1 := HM6.out.lt; have h2 := HKB.out; have h3 := HML.out; omega)
    have HO7 : Hid (Only (fun j => j = aB) wc (wc.setCell ⟨aB, 1, none⟩ (.int .i64 (a.off + (k : Int))))) := Lib.hid ((Only.refl (fun j => j = aB) wc).setCell (p := ⟨aB, 1, none⟩) (.inl rfl) _)
    have HM7 := Lib.hid (HM6.out.setA HO7.out (HM6.out.ab.set 1 (.int .i64 (a.off + (k : Int)))))
    have HI7 := Lib.hid (HI6.out.only HM6.out.ab (noItA _ _ _ _ _ _) HO7.out)
    have HA7 := Lib.hid (HA6.out.only HO7.out fun b o n c e => by have h1 := HJ6.out b (by rw [e]; rfl); have h2 := HM6.out.lt; have h3 := HML.out; omega)
    have HK7 := Lib.hid (HK6.out.only HO7.out fun e => HNEK.out.1 e.symm)
    have HJ7 : Hid (∀ j, Value.ownBlock (.slice aa n1 c2) = some j → aB < j ∧ rB < j ∧ tB < j) := Lib.hid fun j hj => by have h1 := HJ6.out j hj; have h2 := HM6.out.lt; have h3 := HML.out; omega
    generalize wc.setCell ⟨aB, 1, none⟩ (.int .i64 (a.off + (k : Int))) = w7 at *
    clear HO7 HM6 HI6 HA6 HK6 HJ6 HB6 HF6 HSE HRG HSG
    try simp only [Act.put, List.setIfInBounds_toArray, List.set_cons_succ, List.set_cons_zero]
    refine wpList_nil ?_
    go_upto_region 6 with fail
    refine wp_region_lit ?_
    refine takeL (.pointer (some ⟨aB, 2, none⟩)) rfl (by go_simp) ?_
    try simp only [Act.put, List.setIfInBounds_toArray, List.set_cons_succ, List.set_cons_zero]
    refine takeL (.int .u32 a.seq) rfl (by have q := HM7.out.ab.cell (i := 2) rfl; go_simp) ?_
    try simp only [Act.put, List.setIfInBounds_toArray, List.set_cons_succ, List.set_cons_zero]
    refine takeL (.pointer (some ⟨kB, 3, none⟩)) rfl (by go_simp) ?_
    try simp only [Act.put, List.setIfInBounds_toArray, List.set_cons_succ, List.set_cons_zero]
    refine takeL (.int .i64 (q : Int)) rfl (by have q := HK7.out.cell (i := 3) rfl; go_simp) ?_
    try simp only [Act.put, List.setIfInBounds_toArray, List.set_cons_succ, List.set_cons_zero]
    refine takeL (.int .u32 (q : Int)) rfl (by have z := gw3.out q (Nat.le_trans HQ.out.2 (by decide)); go_simp) ?_
    try simp only [Act.put, List.setIfInBounds_toArray, List.set_cons_succ, List.set_cons_zero]
    refine takeL (.int .u32 ((a.seq + (q : Int)) % M32)) rfl (by have z := gw4.out q; go_simp) ?_
    try simp only [Act.put, List.setIfInBounds_toArray, List.set_cons_succ, List.set_cons_zero]
    refine takeL (.pointer (some ⟨aB, 2, none⟩)) rfl (by go_simp) ?_
    try simp only [Act.put, List.setIfInBounds_toArray, List.set_cons_succ, List.set_cons_zero]
    refine skipL (w7.setCell ⟨aB, 2, none⟩ (.int .u32 ((a.seq + (q : Int)) % M32))) rfl (by have q := HM7.out.ab.cell (i := 2) rfl; have fz := HM7.out.ab.frozen 2; go_simp) ?_
    have HO8 : Hid (Only (fun j => j = aB) w7 (w7.setCell ⟨aB, 2, none⟩ (.int .u32 ((a.seq + (q : Int)) % M32)))) := Lib.hid ((Only.refl (fun j => j = aB) w7).setCell (p := ⟨aB, 2, none⟩) (.inl rfl) _)
    have HM8 := Lib.hid (HM7.out.setA HO8.out (HM7.out.ab.set 2 (.int .u32 ((a.seq + (q : Int)) % M32))))
    have HI8 := Lib.hid (HI7.out.only HM7.out.ab (noItA _ _ _ _ _ _) HO8.out)
    have HA8 := Lib.hid (HA7.out.only HO8.out fun b o n c e => by have h1 := HJ7.out b (by rw [e]; rfl); omega)
    have HK8 := Lib.hid (HK7.out.only HO8.out fun e => HNEK.out.1 e.symm)
    generalize w7.setCell ⟨aB, 2, none⟩ (.int .u32 ((a.seq + (q : Int)) % M32)) = w8 at *
    clear HO8 HM7 HI7 HA7 HK7
    try simp only [Act.put, List.setIfInBounds_toArray, List.set_cons_succ, List.set_cons_zero]
    refine wpList_nil ?_
    go_upto_region 7 with fail
    refine startH (fun wq => Only (fun j => j = rB ∨ j = tB ∨ w8.heap.size ≤ j) w8 wq) (by kernel_rfl) ?_
    have HSd : Hid (Only (fun j => j = rB ∨ j = tB ∨ w8.heap.size ≤ j) w8 w8.drew) := Lib.hid (Only.refl _ _).drew
    have HLT : Hid (aB < rB ∧ rB < tB ∧ tB < w8.heap.size ∧ kB < w8.heap.size) := Lib.hid ⟨HM8.out.lt.2.2.1, HM8.out.lt.2.2.2.1, HM8.out.lt.2.2.2.2, HK8.out.lt⟩
    have HAW : Hid (∀ wq, Only (fun j => j = rB ∨ j = tB ∨ w8.heap.size ≤ j) w8 wq → Blk wq aB [.int .i64 a.seg, .int .i64 (a.off + (k : Int)), .int .u32 ((a.seq + (q : Int)) % M32), .slice fa m fc]) := Lib.hid fun wq hS => HM8.out.ab.only hS (by have := HLT.out; omega)
    have HKW : Hid (∀ wq, Only (fun j => j = rB ∨ j = tB ∨ w8.heap.size ≤ j) w8 wq → Blk wq kB [.slice ia n1 c1, .slice aa n1 c2, .int .i64 k, .int .i64 q]) := Lib.hid fun wq hS => HK8.out.only hS (by have h1 := HLT.out; have h2 := HNEK.out; omega)
    have HMd := Lib.hid (HM8.out.below (Below.refl _ _).drew)
    have HId := Lib.hid (HI8.out.below (Below.refl _ _).drew)
    have HAd := Lib.hid (HA8.out.below (Below.refl _ _).drew)
    have HSZ : Hid (w8.drew.heap.size = w8.heap.size) := Lib.hid rfl
    generalize w8.drew = wS at *
    refine takeH 0 (some 51) (.pointer (some ⟨kB, 0, none⟩)) rfl rfl (by kernel_rfl) (by kernel_rfl) (by kernel_rfl) (fun _ _ _ h => h) rfl (fun wq hS => by go_simp) HSd.out ?_
    try simp only [Act.put, List.setIfInBounds_toArray, List.set_cons_succ, List.set_cons_zero]
    refine takeH 1 (some 52) (.slice ia n1 c1) rfl rfl (by kernel_rfl) (by kernel_rfl) (by kernel_rfl) (fun _ _ _ h => h) rfl (fun wq hS => by have q := (HKW.out wq hS).cell (i := 0) rfl; go_simp) HSd.out ?_
    try simp only [Act.put, List.setIfInBounds_toArray, List.set_cons_succ, List.set_cons_zero]
    refine takeH 2 (some 53) (.int .i64 (f : Int)) rfl rfl (by kernel_rfl) (by kernel_rfl) (by kernel_rfl) (fun _ _ _ h => h) rfl (fun wq hS => by go_simp) HSd.out ?_
    try simp only [Act.put, List.setIfInBounds_toArray, List.set_cons_succ, List.set_cons_zero]
    refine takeH 3 (some 54) (.pointer (some ⟨kB, 1, none⟩)) rfl rfl (by kernel_rfl) (by kernel_rfl) (by kernel_rfl) (fun _ _ _ h => h) rfl (fun wq hS => by go_simp) HSd.out ?_
    try simp only [Act.put, List.setIfInBounds_toArray, List.set_cons_succ, List.set_cons_zero]
    refine takeH 4 (some 55) (.slice aa n1 c2) rfl rfl (by kernel_rfl) (by kernel_rfl) (by kernel_rfl) (fun _ _ _ h => h) rfl (fun wq hS => by have q := (HKW.out wq hS).cell (i := 1) rfl; go_simp) HSd.out ?_
    try simp only [Act.put, List.setIfInBounds_toArray, List.set_cons_succ, List.set_cons_zero]
    refine takeH 7 (some 58) (.agg #[.int .i64 a.seg, .int .i64 (a.off + (k : Int)), .int .u32 ((a.seq + (q : Int)) % M32), .slice fa m fc]) rfl rfl (by kernel_rfl) (by kernel_rfl) (by kernel_rfl) (fun _ _ _ h => h) rfl (fun wq hS => by have q := HAW.out wq hS; have q0 := q.cell (i := 0) rfl; have q1 := q.cell (i := 1) rfl; have q2 := q.cell (i := 2) rfl; have q3 := q.cell (i := 3) rfl; go_simp) HSd.out ?_
    try simp only [Act.put, List.setIfInBounds_toArray, List.set_cons_succ, List.set_cons_zero]
    refine oneH 5 (by kernel_rfl) rfl rfl fun K hK => ?_
    go_simp
    refine (HPL.out _ HAd.out).mono ?_
    rintro e w9 ⟨pv, rfl, hp, hb⟩
    have HS9 : Hid (Only (fun j => j = rB ∨ j = tB ∨ w8.heap.size ≤ j) w8 w9) := Lib.hid (HSd.out.trans ((Only.of_belowB hb).more fun j _ hj => .inr (.inr (by have := HSZ.out; omega))))
    have HM9 := Lib.hid (HMd.out.below hb)
    have HI9 := Lib.hid (HId.out.below hb)
    have HP9 := Lib.hid hp.ints
    have HPB : Hid (∀ j, pv.ownBlock = some j → tB < j) := Lib.hid fun j hj => by have h1 := (hp.lt j hj).1; have h2 := HMd.out.lt; omega
    obtain ⟨pa, pc, hpv⟩ := hp.ints.form
    obtain ⟨n3, hn3⟩ : ∃ n, ((lay2 a.seq (pl.map (·.1))).2.map (plOf (f : Int))).length = n := ⟨_, rfl⟩
    rw [hn3] at hpv
    subst hpv
    refine hK _ _ HS9.out ?_
    clear hK K hp hb hn3 HMd HId HAd HPL HSd
    try simp only [Act.put, List.setIfInBounds_toArray, List.set_cons_succ, List.set_cons_zero]
    refine takeH 6 (some 57) (.agg #[.slice ia n1 c1, .slice pa n3 pc]) rfl rfl (by kernel_rfl) (by kernel_rfl) (by kernel_rfl) (fun _ _ _ h => h) rfl (fun wq hS => by exact exec_build _ _ _ _ 55 _ rfl #[(0, .slice ia n1 c1), (1, .slice pa n3 pc)] (by simp only [List.map_toArray, List.map_cons, List.map_nil]; rfl) _ (run_build wq 55 _ _ (built55 _ _ _ _ _ _))) HS9.out ?_
    try simp only [Act.put, List.setIfInBounds_toArray, List.set_cons_succ, List.set_cons_zero]
    refine oneH 8 (by kernel_rfl) rfl rfl fun K hK => ?_
    refine wp_store_all 55 _ _ rfl rB #[.slice ia n1 c1, .slice pa n3 pc] rfl rfl _ HM9.out.rb rfl info55 (gr_one _ _ _ _ _ _) ?_
    intro w10 hD hO
    have HS10 : Hid (Only (fun j => j = rB ∨ j = tB ∨ w8.heap.size ≤ j) w8 w10) := Lib.hid (HS9.out.trans (hO.more fun j _ hj => .inl hj))
    have HM10 := Lib.hid (HM9.out.setR hO hD)
    have HI10 := Lib.hid (HI9.out.only HM9.out.rb (noIt2 _ _ _ _ _ _) hO)
    have HP10 := Lib.hid (HP9.out.only hO fun b o n c e => by have h1 := HPB.out b (by rw [e]; rfl); have h2 := HLT.out; omega)
    refine hK _ _ HS10.out ?_
    clear hK K hD hO HM9 HI9 HP9 HS9
    try simp only [Act.put, List.setIfInBounds_toArray, List.set_cons_succ, List.set_cons_zero]
    refine oneH 9 (by kernel_rfl) rfl rfl fun K hK => ?_
    refine wp_store_all 40 _ _ rfl tB #[.int .i64 a.seg, .int .i64 (a.off + (k : Int)), .int .u32 ((a.seq + (q : Int)) % M32), .slice fa m fc] rfl rfl _ HM10.out.tb rfl info40 (at_one _ _ _ _ _ _) ?_
    intro w11 hD hO
    have HS11 : Hid (Only (fun j => j = rB ∨ j = tB ∨ w8.heap.size ≤ j) w8 w11) := Lib.hid (HS10.out.trans (hO.more fun j _ hj => .inr (.inl hj)))
    have HM11 := Lib.hid (HM10.out.setT hO hD)
    have HI11 := Lib.hid (HI10.out.only HM10.out.tb (noItA _ _ _ _ _ _) hO)
    have HP11 := Lib.hid (HP10.out.only hO fun b o n c e => by have h1 := HPB.out b (by rw [e]; rfl); omega)
    refine hK _ _ HS11.out ?_
    clear hK K hD hO HM10 HI10 HP10 HS10
    try simp only [Act.put, List.setIfInBounds_toArray, List.set_cons_succ, List.set_cons_zero]
    refine takeH 10 (some 8) (.nilIface) rfl rfl (by kernel_rfl) (by kernel_rfl) (by kernel_rfl) (fun _ _ _ h => h) rfl (fun wq hS => by go_simp) HS11.out ?_
    try simp only [Act.put, List.setIfInBounds_toArray, List.set_cons_succ, List.set_cons_zero]
    refine wpAnyH_done (by kernel_rfl) ?_ _
    go_wp2_with fail
    refine bodyPost_ret (v := .tuple #[.agg #[.slice ia n1 c1, .slice pa n3 pc], .agg #[.int .i64 a.seg, .int .i64 (a.off + (k : Int)), .int .u32 ((a.seq + (q : Int)) % M32), .slice fa m fc], .nilIface]) (results_cct rfl _ _ rB tB #[.slice ia n1 c1, .slice pa n3 pc] #[.int .i64 a.seg, .int .i64 (a.off + (k : Int)), .int .u32 ((a.seq + (q : Int)) % M32), .slice fa m fc] _ _ .nilIface rfl rfl rfl Tryz.underlying55 Tryz.underlying40 rfl rfl info55 info40 (HM11.out.rb.all rfl) (HM11.out.tb.all rfl)) rfl ⟨.inr ⟨pl.map (·.1), ia, n1, c1, pa, n3, pc, pl, HRN.out, by rw [HK.out, HQ.out.1], rfl, HI11.out, ?_, fun j hj => by have h1 := HPB.out j hj; have h2 := HM11.out.lt; have h3 := HGB.out; omega, by rw [HGB.out]; exact HFF.out.1, by rw [HGB.out]; exact HFF.out.2⟩, HGB.out ▸ HM11.out.bel⟩
    unfold pOf
    rw [HFO.out]
    exact HP11.out
end

end Go.Proofs.YthlnmdihdcfphaaGreatDoor
