/- Package journal: write. -/
import Derived.Test.YthlnmdihdcfphaaGreatDoorJd
namespace Go.Proofs.YthlnmdihdcfphaaGreatDoor
set_option linter.unusedSimpArgs false
set_option linter.unusedVariables false
open Go.RowKit
open De (exec_load_at)

/-- Sectors written one behind the other: what becomes of the device; did all go through? -/
def wrs : De.D → Int → List (List Int) → De.D × Bool
  | d, _, [] => (d, true)
  | d, i, x :: r => if d.writeE i = 0 then wrs (d.write i (u8s x).toArray) (i + 1) r else (d.write i (u8s x).toArray, false)
/-- And flushed. -/
def wrAll (d : De.D) (i : Int) (X : List (List Int)) : De.D × Bool := if (wrs d i X).2 = true then ((wrs d i X).1.flush, decide ((wrs d i X).1.flushE = 0)) else ((wrs d i X).1, false)
theorem write_len (d : De.D) (i : Int) (s : Array Value) : (d.write i s).S.length = d.S.length := by
  unfold De.D.write
  split
  · split <;> rfl
  · rfl
theorem write_T (d : De.D) (i : Int) (s : Array Value) : (d.write i s).T ≤ d.T + 1 := by
  unfold De.D.write
  split
  · split <;> simp
  · simp
theorem write_L (d : De.D) (i : Int) (s : Array Value) : (d.write i s).L.length ≤ d.L.length + 1 := by
  unfold De.D.write
  split
  · split <;> simp
  · simp
theorem app_len (S : List (Array Value)) (L : List (Nat × Array Value)) : (De.app S L).length = S.length := by
  unfold De.app
  induction L generalizing S with
  | nil => rfl
  | cons p r ih => rw [List.foldl_cons, ih]; simp
theorem flush_len (d : De.D) : d.flush.S.length = d.S.length := by
  unfold De.D.flush
  split
  · rfl
  · exact app_len _ _
theorem writeE_or (d : De.D) (i : Int) (h : d.has i = true) : d.writeE i = 0 ∨ d.writeE i = 12 := by
  unfold De.D.writeE
  rw [if_pos h]
  split
  · exact .inr rfl
  · exact .inl rfl
theorem flushE_or (d : De.D) : d.flushE = 0 ∨ d.flushE = 12 := by
  unfold De.D.flushE
  split
  · exact .inr rfl
  · exact .inl rfl
theorem sc_sec {x : List Int} (h : Sc x) : De.Sec (u8s x).toArray := ⟨by simp [h.length], fun v hv => by
  simp at hv
  obtain ⟨m, -, rfl⟩ := hv
  exact ⟨m, rfl⟩⟩
theorem Only.then {F G : Nat → Prop} {a b c : World} (h : Only F a b) (k : Only G b c) (hG : ∀ j, G j → F j ∨ a.heap.size ≤ j) : Only F a c :=
  ⟨k.os.trans h.os, k.tape.trans h.tape, k.output.trans h.output, Nat.le_trans h.size k.size, fun i hi hs => (k.block i (Nat.lt_of_lt_of_le hi h.size) fun hg => (hG i hg).elim hs fun h2 => by omega).trans (h.block i hi hs)⟩
theorem SecsAt.onlyF {F : Nat → Prop} {w w' : World} {sv : Value} {X : List (List Int)} (h : SecsAt w sv X) (ho : Only F w w') (hn : ∀ b o n c, sv = .slice (some ⟨b, o, none⟩) n c → ¬ F b) : SecsAt w' sv X := by
  obtain ⟨a, cap, e, hcap, hc⟩ := h
  refine ⟨a, cap, e, hcap, fun i x hx => ?_⟩
  obtain ⟨h1, g, o, h3, h4⟩ := hc i x hx
  refine ⟨h1, g, o, h3, fun j hj => ?_⟩
  rw [← h4 j hj]
  simp only [World.cell?, ho.block g (block_lt_of_cell (h4 j hj)) (hn g o _ _ (by rw [e, h3]))]
/-- Where a journal's write is. -/
structure Wst (W w wr : World) (jb b : Nat) (F Fk : Nat → Prop) (d dk : De.D) (g : Pl.Gm) (a : Ja) (fv sv : Value) (X : List (List Int)) (first : Int) (k : Nat) : Prop where
  jn : Jn W wr jb b Fk dk g a fv
  sec : SecsAt wr sv X
  on : Only F w wr
  nw : ∀ j, Fk j → F j ∨ w.heap.size ≤ j
  S : dk.S.length = d.S.length
  T : dk.T ≤ d.T + k
  L : dk.L.length ≤ d.L.length + k
  eq : wrs d first X = wrs dk (first + k) (X.drop k)
section
variable {W w wr w' : World} {jb b : Nat} {F Fk F' : Nat → Prop} {d dk d' : De.D} {g : Pl.Gm} {a : Ja} {fv sv : Value} {X : List (List Int)} {first : Int} {k : Nat}
theorem Wst.below (h : Wst W w wr jb b F Fk d dk g a fv sv X first k) (hb : Below wr.heap.size wr w') : Wst W w w' jb b F Fk d dk g a fv sv X first k :=
  ⟨h.jn.below hb, h.sec.below hb, h.on.then (Only.of_below (S := fun _ => False) hb) (fun _ h => h.elim), h.nw, h.S, h.T, h.L, h.eq⟩
theorem Wst.far (h : Wst W w wr jb b F Fk d dk g a fv sv X first k) (hap : ∀ b o n c, sv = .slice (some ⟨b, o, none⟩) n c → ¬ F b ∧ b < w.heap.size) : ∀ b o n c, sv = .slice (some ⟨b, o, none⟩) n c → ¬ Fk b := fun b' o n c e hF => by
  obtain ⟨h1, h2⟩ := hap b' o n c e
  rcases h.nw b' hF with h3 | h3
  · exact h1 h3
  · omega
/-- Behind one write that went through. -/
theorem Wst.next (h : Wst W w wr jb b F Fk d dk g a fv sv X first k) (hap : ∀ b o n c, sv = .slice (some ⟨b, o, none⟩) n c → ¬ F b ∧ b < w.heap.size) {x : List Int} (hx : X[k]? = some x) (he : dk.writeE (first + k) = 0) (hd : De.Dv W w' b F' (dk.write (first + k) (u8s x).toArray)) (ho : Only Fk wr w') (hn : ∀ j, F' j → Fk j ∨ wr.heap.size ≤ j) : Wst W w w' jb b F F' d (dk.write (first + k) (u8s x).toArray) g a fv sv X first (k + 1) := by
  refine ⟨h.jn.dev hd ho hn (write_len _ _ _), h.sec.onlyF ho (h.far hap), h.on.then ho h.nw, fun j hj => ?_, by rw [write_len, h.S], ?_, ?_, ?_⟩
  · rcases hn j hj with h1 | h1
    · exact h.nw j h1
    · exact .inr (Nat.le_trans h.on.size h1)
  · have := write_T dk (first + k) (u8s x).toArray; have := h.T; omega
  · have := write_L dk (first + k) (u8s x).toArray; have := h.L; omega
  · rw [h.eq, List.drop_eq_getElem_cons (List.getElem?_eq_some_iff.1 hx).1, (List.getElem?_eq_some_iff.1 hx).2]
    simp only [wrs]
    rw [if_pos he, Int.add_assoc]
    rfl
end
/-- What a write tells. -/
def JErr (w : World) (ok : Bool) (v : Value) : Prop := (ok = true ∧ v = .nilIface) ∨ (ok = false ∧ Fault w 12 v)
section
variable {W w : World} {jb b : Nat} {F : Nat → Prop} {d : De.D} {g : Pl.Gm} {a : Ja} {fv : Value}
set_option maxRecDepth 100000 in
set_option maxHeartbeats 2000000 in
theorem jwrite_any (h : Jn W w jb b F d g a fv) (hV : Vars W) (f : Nat) (X : List (List Int)) (sv : Value) (hs : SecsAt w sv X) (hap : ∀ b o n c, sv = .slice (some ⟨b, o, none⟩) n c → ¬ F b ∧ b < w.heap.size) (hr : f + X.length ≤ d.S.length) (hS : d.S.length ≤ 1024) (hT : d.T + X.length ≤ 900000) (hL : d.L.length + X.length ≤ 900000) : Calls Tryz.prog 46 #[.pointer (some ⟨jb, 0, none⟩), .int .i64 f, sv] w fun e w' => ∃ v F', e = .returned v ∧ JErr w' (wrAll d f X).2 v ∧ Jn W w' jb b F' (wrAll d f X).1 g a fv ∧ Only F w w' ∧ ∀ k, F' k → F k ∨ w.heap.size ≤ k := by
  have HV := Lib.hid hV
  have HAP := Lib.hid hap
  have HW0 : Hid (Wst W w w jb b F F d d g a fv sv X f 0) := Lib.hid ⟨h, hs, Only.refl _ _, fun j hj => .inl hj, rfl, Nat.le_refl _, Nat.le_refl _, by simp⟩
  have HC := Lib.hid hs
  obtain ⟨sa, sc, hsv, hcap, -⟩ := hs
  obtain ⟨m, hm⟩ : ∃ m, X.length = m := ⟨_, rfl⟩
  rw [hm] at hsv hcap hr hT hL
  subst hsv
  have HM := Lib.hid hm
  have HN : Hid (f + m ≤ d.S.length ∧ d.S.length ≤ 1024 ∧ d.T + m ≤ 900000 ∧ d.L.length + m ≤ 900000) := Lib.hid ⟨hr, hS, hT, hL⟩
  have hm1 : m ≤ 1024 := by omega
  have HF1 : Hid (f + m ≤ 1024) := Lib.hid (by omega)
  clear h hV hap hm hr hS hT hL
  go_enter Tryz.func46, Tryz.ntmps46
  go_wp2_with fail
  go_loopg [12] m (fun q i wr => ∃ k Fk dk, m - k ≤ q ∧ k ≤ m ∧ i = .int .i64 ((k : Nat) : Int) ∧ Wst W w wr jb b F Fk d dk g a fv (.slice sa m sc) X f k)
  case atStart => exact ⟨0, F, d, by omega, by omega, rfl, HW0.out⟩
  case round =>
    obtain ⟨k, Fk, dk, hq, hk, rfl, hst⟩ := hrel
    have HW := Lib.hid hst
    clear hst
    have HH : Hid (k < m → dk.has ((f : Int) + (k : Int)) = true) := Lib.hid fun hkn => by
      have := HW.out.S
      have := HN.out
      unfold De.D.has
      simp only [Bool.and_eq_true, decide_eq_true_eq]
      omega
    have HTT : Hid (dk.T ≤ 1000000) := Lib.hid (by have := HW.out.T; have := HN.out; omega)
    have HLL : Hid (dk.L.length ≤ 1000000) := Lib.hid (by have := HW.out.L; have := HN.out; omega)
    by_cases hkn : k < m
    · have gk : decide ((k : Int) < (m : Int)) = true := decide_eq_true (by omega)
      have hk0 : (k : Int) < (m : Int) := by omega
      have gw : Hid (IntKind.i64.wrap ((f : Int) + (k : Int)) = (f : Int) + (k : Int)) := Lib.hid (wrap64 (by have := HF1.out; omega) (by have := HF1.out; omega))
      obtain ⟨x, hx⟩ : ∃ x, X[k]? = some x := ⟨_, List.getElem?_eq_getElem (by have := HM.out; omega)⟩
      obtain ⟨g0, o0, c0, hsa, -, -, hat⟩ := HW.out.sec.has (by have := HM.out; omega)
      have hsa2 : sa = some ⟨g0, o0, none⟩ := by injection hsa
      subst hsa2
      obtain ⟨hxs, hxa⟩ := hat k x hx
      have HX := Lib.hid hx
      have HXS := Lib.hid (sc_sec hxs)
      have HXL := Lib.hid hxs.length
      have HXA := Lib.hid hxa
      clear hx hxs hxa hat hsa
      go_upto_region 3 with fail
      refine wp_region_lit ?_
      refine takeL (.int .i64 k) rfl (by go_simp) ?_
      try simp only [Act.put, List.setIfInBounds_toArray, List.set_cons_succ, List.set_cons_zero]
      refine takeL (.pointer (some ⟨g0, o0 + k * 64, none⟩)) rfl (by go_simp) ?_
      try simp only [Act.put, List.setIfInBounds_toArray, List.set_cons_succ, List.set_cons_zero]
      refine load115 HXA.out (by rw [u8s_size, HXL.out]) rfl rfl ?_
      try simp only [Act.put, List.setIfInBounds_toArray, List.set_cons_succ, List.set_cons_zero]
      refine alloc_g zero115 rfl ?_
      intro wA hA hb hl
      try simp only [Act.put, List.setIfInBounds_toArray, List.set_cons_succ, List.set_cons_zero]
      refine takeL (.int .i64 k) rfl (by go_simp) ?_
      try simp only [Act.put, List.setIfInBounds_toArray, List.set_cons_succ, List.set_cons_zero]
      refine store_all (cs := (u8s x).toArray) hA (by simp [zeros, HXL.out]) (by rw [u8s_size, HXL.out]; exact info115) (u8s_one _) rfl rfl rfl ?_
      intro wB hD hO hlD
      try simp only [Act.put, List.setIfInBounds_toArray, List.set_cons_succ, List.set_cons_zero]
      have HW1 := Lib.hid (HW.out.below (hb.trans (hO.below hb.size fun k hk => Nat.le_of_eq hk.symm)))
      have HUB : Hid (Blk wB wr.heap.size (u8s x)) := Lib.hid hD
      have HUF : Hid (¬ Fk wr.heap.size) := Lib.hid fun hF => by have := (HW.out.jn.dv.lt _ hF).2; omega
      generalize wr.heap.size = u at *
      clear hA hb hl hD hO hlD
      rcases writeE_or dk _ (HH.out hkn) with he | he
      · have HE := Lib.hid he
        refine wpList_nil ?_
        go_upto_region 4 with fail
        refine startH (fun wq => Only Fk wB wq) (by kernel_rfl) ?_
        have HSd : Hid (Only Fk wB wB.drew) := Lib.hid (Only.refl _ _).drew
        refine takeH 0 (some 17) (.pointer (some ⟨jb, 0, none⟩)) rfl rfl (by kernel_rfl) (by kernel_rfl) (by kernel_rfl) (fun _ _ _ h => h) rfl (fun wq hS => by go_simp) HSd.out ?_
        try simp only [Act.put, List.setIfInBounds_toArray, List.set_cons_succ, List.set_cons_zero]
        refine takeH 1 (some 18) (.pointer (some ⟨jb, 0, none⟩)) rfl rfl (by kernel_rfl) (by kernel_rfl) (by kernel_rfl) (fun _ _ _ h => h) rfl (fun wq hS => by go_simp) HSd.out ?_
        try simp only [Act.put, List.setIfInBounds_toArray, List.set_cons_succ, List.set_cons_zero]
        refine takeH 2 (some 19) (.pointer (some ⟨jb, 0, none⟩)) rfl rfl (by kernel_rfl) (by kernel_rfl) (by kernel_rfl) (fun _ _ _ h => h) rfl (fun wq hS => by go_simp) HSd.out ?_
        try simp only [Act.put, List.setIfInBounds_toArray, List.set_cons_succ, List.set_cons_zero]
        refine takeH 3 (some 20) (.pointer (some ⟨b, 0, none⟩)) rfl rfl (by kernel_rfl) (by kernel_rfl) (by kernel_rfl) (fun _ _ _ h => h) rfl (fun wq hS => by have q := (HW1.out.jn.blk.only hS HW1.out.jn.nF).cell (i := 0) rfl; go_simp) HSd.out ?_
        try simp only [Act.put, List.setIfInBounds_toArray, List.set_cons_succ, List.set_cons_zero]
        refine takeH 4 (some 21) (.int .i64 f) rfl rfl (by kernel_rfl) (by kernel_rfl) (by kernel_rfl) (fun _ _ _ h => h) rfl (fun wq hS => by go_simp) HSd.out ?_
        try simp only [Act.put, List.setIfInBounds_toArray, List.set_cons_succ, List.set_cons_zero]
        refine takeH 5 (some 22) (.int .i64 k) rfl rfl (by kernel_rfl) (by kernel_rfl) (by kernel_rfl) (fun _ _ _ h => h) rfl (fun wq hS => by go_simp) HSd.out ?_
        try simp only [Act.put, List.setIfInBounds_toArray, List.set_cons_succ, List.set_cons_zero]
        refine takeH 6 (some 23) (.int .i64 ((f : Int) + (k : Int))) rfl rfl (by kernel_rfl) (by kernel_rfl) (by kernel_rfl) (fun _ _ _ h => h) rfl (fun wq hS => by have q := gw.out; go_simp) HSd.out ?_
        try simp only [Act.put, List.setIfInBounds_toArray, List.set_cons_succ, List.set_cons_zero]
        refine takeH 7 (some 24) (.agg ((u8s x).toArray)) rfl rfl (by kernel_rfl) (by kernel_rfl) (by kernel_rfl) (fun _ _ _ h => h) rfl (fun wq hS => exec_load_at wq _ _ 115 _ rfl (u) (0) rfl ((u8s x).toArray) _ Tryz.underlying115 rfl (by rw [u8s_size, HXL.out]; exact info115) (Blk.all (cs := (u8s x).toArray) (HUB.out.only hS HUF.out) rfl)) HSd.out ?_
        try simp only [Act.put, List.setIfInBounds_toArray, List.set_cons_succ, List.set_cons_zero]
        refine oneH 8 (by kernel_rfl) rfl rfl fun K hK => ?_
        go_simp
        refine (De.dv_write (HW1.out.jn.dv.drew) HTT.out HLL.out ((f : Int) + (k : Int)) _ HXS.out).mono ?_
        rintro e w4 ⟨F', rfl, hdv, hon, hnw⟩
        rw [he]
        have HS4 : Hid (Only Fk wB w4) := Lib.hid (HSd.out.then hon (fun j hj => .inl hj))
        have HW4 := Lib.hid (HW1.out.below (Below.refl _ _).drew)
        have HW5 := Lib.hid (HW4.out.next HAP.out HX.out HE.out hdv hon hnw)
        refine hK _ _ HS4.out ?_
        clear hK K hdv hon hnw he
        try simp only [Act.put, List.setIfInBounds_toArray, List.set_cons_succ, List.set_cons_zero]
        refine takeH 9 (some 9) (.int .i64 0) rfl rfl (by kernel_rfl) (by kernel_rfl) (by kernel_rfl) (fun _ _ _ h => h) rfl (fun wq hS => by go_simp) HS4.out ?_
        try simp only [Act.put, List.setIfInBounds_toArray, List.set_cons_succ, List.set_cons_zero]
        refine wpAnyH_done (by kernel_rfl) ?_ _
        go_wp2_with fail
        go_roundg (m - (k + 1))
        case measure => omega
        case rel => exact ⟨k + 1, F', _, by omega, by omega, by go_num, HW5.out⟩
      · have HE := Lib.hid he
        refine wpList_nil ?_
        go_upto_region 4 with fail
        refine startH (fun wq => Only Fk wB wq) (by kernel_rfl) ?_
        have HSd : Hid (Only Fk wB wB.drew) := Lib.hid (Only.refl _ _).drew
        refine takeH 0 (some 17) (.pointer (some ⟨jb, 0, none⟩)) rfl rfl (by kernel_rfl) (by kernel_rfl) (by kernel_rfl) (fun _ _ _ h => h) rfl (fun wq hS => by go_simp) HSd.out ?_
        try simp only [Act.put, List.setIfInBounds_toArray, List.set_cons_succ, List.set_cons_zero]
        refine takeH 1 (some 18) (.pointer (some ⟨jb, 0, none⟩)) rfl rfl (by kernel_rfl) (by kernel_rfl) (by kernel_rfl) (fun _ _ _ h => h) rfl (fun wq hS => by go_simp) HSd.out ?_
        try simp only [Act.put, List.setIfInBounds_toArray, List.set_cons_succ, List.set_cons_zero]
        refine takeH 2 (some 19) (.pointer (some ⟨jb, 0, none⟩)) rfl rfl (by kernel_rfl) (by kernel_rfl) (by kernel_rfl) (fun _ _ _ h => h) rfl (fun wq hS => by go_simp) HSd.out ?_
        try simp only [Act.put, List.setIfInBounds_toArray, List.set_cons_succ, List.set_cons_zero]
        refine takeH 3 (some 20) (.pointer (some ⟨b, 0, none⟩)) rfl rfl (by kernel_rfl) (by kernel_rfl) (by kernel_rfl) (fun _ _ _ h => h) rfl (fun wq hS => by have q := (HW1.out.jn.blk.only hS HW1.out.jn.nF).cell (i := 0) rfl; go_simp) HSd.out ?_
        try simp only [Act.put, List.setIfInBounds_toArray, List.set_cons_succ, List.set_cons_zero]
        refine takeH 4 (some 21) (.int .i64 f) rfl rfl (by kernel_rfl) (by kernel_rfl) (by kernel_rfl) (fun _ _ _ h => h) rfl (fun wq hS => by go_simp) HSd.out ?_
        try simp only [Act.put, List.setIfInBounds_toArray, List.set_cons_succ, List.set_cons_zero]
        refine takeH 5 (some 22) (.int .i64 k) rfl rfl (by kernel_rfl) (by kernel_rfl) (by kernel_rfl) (fun _ _ _ h => h) rfl (fun wq hS => by go_simp) HSd.out ?_
        try simp only [Act.put, List.setIfInBounds_toArray, List.set_cons_succ, List.set_cons_zero]
        refine takeH 6 (some 23) (.int .i64 ((f : Int) + (k : Int))) rfl rfl (by kernel_rfl) (by kernel_rfl) (by kernel_rfl) (fun _ _ _ h => h) rfl (fun wq hS => by have q := gw.out; go_simp) HSd.out ?_
        try simp only [Act.put, List.setIfInBounds_toArray, List.set_cons_succ, List.set_cons_zero]
        refine takeH 7 (some 24) (.agg ((u8s x).toArray)) rfl rfl (by kernel_rfl) (by kernel_rfl) (by kernel_rfl) (fun _ _ _ h => h) rfl (fun wq hS => exec_load_at wq _ _ 115 _ rfl (u) (0) rfl ((u8s x).toArray) _ Tryz.underlying115 rfl (by rw [u8s_size, HXL.out]; exact info115) (Blk.all (cs := (u8s x).toArray) (HUB.out.only hS HUF.out) rfl)) HSd.out ?_
        try simp only [Act.put, List.setIfInBounds_toArray, List.set_cons_succ, List.set_cons_zero]
        refine oneH 8 (by kernel_rfl) rfl rfl fun K hK => ?_
        go_simp
        refine (De.dv_write (HW1.out.jn.dv.drew) HTT.out HLL.out ((f : Int) + (k : Int)) _ HXS.out).mono ?_
        rintro e w4 ⟨F', rfl, hdv, hon, hnw⟩
        rw [he]
        have HS4 : Hid (Only Fk wB w4) := Lib.hid (HSd.out.then hon (fun j hj => .inl hj))
        have HW4 := Lib.hid (HW1.out.below (Below.refl _ _).drew)
        have HJ4 := Lib.hid (HW4.out.jn.dev hdv hon hnw (write_len _ _ _))
        have HO4 := Lib.hid (HW4.out.on.then hon HW4.out.nw)
        have HN4 : Hid (∀ j, F' j → F j ∨ w.heap.size ≤ j) := Lib.hid fun j hj => by
          rcases hnw j hj with h1 | h1
          · exact HW4.out.nw j h1
          · exact .inr (Nat.le_trans HW4.out.on.size h1)
        have HRES : Hid (wrAll d f X = (dk.write ((f : Int) + (k : Int)) (u8s x).toArray, false)) := Lib.hid (by
          have e1 : wrs d f X = (dk.write ((f : Int) + (k : Int)) (u8s x).toArray, false) := by
            rw [HW.out.eq, List.drop_eq_getElem_cons (List.getElem?_eq_some_iff.1 HX.out).1, (List.getElem?_eq_some_iff.1 HX.out).2]
            simp only [wrs]
            rw [if_neg (by rw [HE.out]; decide)]
          unfold wrAll
          rw [e1]
          rfl)
        refine hK _ _ HS4.out ?_
        clear hK K hdv hon hnw he
        try simp only [Act.put, List.setIfInBounds_toArray, List.set_cons_succ, List.set_cons_zero]
        refine takeH 9 (some 9) (.int .i64 12) rfl rfl (by kernel_rfl) (by kernel_rfl) (by kernel_rfl) (fun _ _ _ h => h) rfl (fun wq hS => by go_simp) HS4.out ?_
        try simp only [Act.put, List.setIfInBounds_toArray, List.set_cons_succ, List.set_cons_zero]
        refine wpAnyH_done (by kernel_rfl) ?_ _
        go_upto_region 6 with fail
        refine wp_region_lit ?_
        refine takeL (.int .i64 12) rfl (by go_simp) ?_
        try simp only [Act.put, List.setIfInBounds_toArray, List.set_cons_succ, List.set_cons_zero]
        refine wpList_op rfl fun K hK => ?_
        go_simp
        refine (new_fault 12 rfl _ _).mono ?_
        rintro e w5 ⟨v, rfl, hf, hb⟩
        have HJ5 := Lib.hid (HJ4.out.below hb)
        have HO5 := Lib.hid (HO4.out.then (Only.of_below (S := fun _ => False) hb) (fun _ h => h.elim))
        have HF5 := Lib.hid hf
        obtain ⟨T, dd, hv⟩ := hf.shape
        subst hv
        clear hf hb
        refine hK _ _ ?_
        clear hK K
        try simp only [Act.put, List.setIfInBounds_toArray, List.set_cons_succ, List.set_cons_zero]
        refine takeL (.int .i64 f) rfl (by go_simp) ?_
        try simp only [Act.put, List.setIfInBounds_toArray, List.set_cons_succ, List.set_cons_zero]
        refine takeL (.int .i64 k) rfl (by go_simp) ?_
        try simp only [Act.put, List.setIfInBounds_toArray, List.set_cons_succ, List.set_cons_zero]
        refine takeL (.int .i64 ((f + k : Nat) : Int)) rfl (by have q := gw.out; go_simp) ?_
        try simp only [Act.put, List.setIfInBounds_toArray, List.set_cons_succ, List.set_cons_zero]
        refine wpList_op rfl fun K hK => ?_
        go_simp
        refine (itoa_any (f + k) (by have := HF1.out; omega) _ (Vars.below (Nat.le_refl _) HJ5.out.dv.2 HV.out)).mono ?_
        rintro e w6 ⟨s, rfl, hs, hb⟩
        have HJ6 := Lib.hid (HJ5.out.below hb)
        have HO6 := Lib.hid (HO5.out.then (Only.of_below (S := fun _ => False) hb) (fun _ h => h.elim))
        have HF6 := Lib.hid (HF5.out.below hb)
        clear hb
        refine hK _ _ ?_
        clear hK K
        try simp only [Act.put, List.setIfInBounds_toArray, List.set_cons_succ, List.set_cons_zero]
        refine takeL (.string (⟨#[115, 101, 99, 116, 111, 114, 32]⟩ ++ s)) rfl (by go_simp; omega) ?_
        try simp only [Act.put, List.setIfInBounds_toArray, List.set_cons_succ, List.set_cons_zero]
        refine wpList_op rfl fun K hK => ?_
        go_simp
        refine (wrap_fault 12 _ _ _ HF6.out).mono ?_
        rintro e w7 ⟨v2, rfl, hf, hb⟩
        have HJ7 := Lib.hid (HJ6.out.below hb)
        have HO7 := Lib.hid (HO6.out.then (Only.of_below (S := fun _ => False) hb) (fun _ h => h.elim))
        have HF7 := Lib.hid hf
        obtain ⟨T2, dd2, hv⟩ := hf.shape
        subst hv
        clear hf hb
        refine hK _ _ ?_
        clear hK K
        try simp only [Act.put, List.setIfInBounds_toArray, List.set_cons_succ, List.set_cons_zero]
        refine takeL (.iface T2 dd2) rfl (by go_simp) ?_
        try simp only [Act.put, List.setIfInBounds_toArray, List.set_cons_succ, List.set_cons_zero]
        refine wpList_nil ?_
        go_wp2_with fail
        go_ret
        exact ⟨_, F', rfl, .inr ⟨by rw [HRES.out], HF7.out⟩, by rw [HRES.out]; exact HJ7.out, HO7.out, HN4.out⟩
    · have hkm : m = k := by omega
      subst hkm
      have gk : decide ((m : Int) < (m : Int)) = false := decide_eq_false (by omega)
      have gk2 : ¬ (m : Int) < (m : Int) := by omega
      have HRES : Hid (wrAll d f X = (dk.flush, decide (dk.flushE = 0))) := Lib.hid (by
        have e1 : wrs d f X = (dk, true) := by
          rw [HW.out.eq, List.drop_eq_nil_of_le (Nat.le_of_eq HM.out)]
          rfl
        unfold wrAll
        rw [e1]
        rfl)
      go_upto_region 8 with fail
      refine wp_region_lit ?_
      refine takeL (.pointer (some ⟨jb, 0, none⟩)) rfl (by go_simp) ?_
      try simp only [Act.put, List.setIfInBounds_toArray, List.set_cons_succ, List.set_cons_zero]
      refine takeL (.pointer (some ⟨jb, 0, none⟩)) rfl (by go_simp) ?_
      try simp only [Act.put, List.setIfInBounds_toArray, List.set_cons_succ, List.set_cons_zero]
      refine takeL (.pointer (some ⟨jb, 0, none⟩)) rfl (by go_simp) ?_
      try simp only [Act.put, List.setIfInBounds_toArray, List.set_cons_succ, List.set_cons_zero]
      refine takeL (.pointer (some ⟨b, 0, none⟩)) rfl (by have q := HW.out.jn.blk.cell (i := 0) rfl; go_simp) ?_
      try simp only [Act.put, List.setIfInBounds_toArray, List.set_cons_succ, List.set_cons_zero]
      rcases flushE_or dk with he | he
      · have HE := Lib.hid he
        refine wpList_op rfl fun K hK => ?_
        go_simp
        refine (De.dv_flush HW.out.jn.dv HTT.out HLL.out).mono ?_
        rintro e w4 ⟨F', rfl, hdv, hon, hnw⟩
        rw [he]
        have HJ4 := Lib.hid (HW.out.jn.dev hdv hon hnw (flush_len _))
        have HO4 := Lib.hid (HW.out.on.then hon HW.out.nw)
        have HN4 : Hid (∀ j, F' j → F j ∨ w.heap.size ≤ j) := Lib.hid fun j hj => by
          rcases hnw j hj with h1 | h1
          · exact HW.out.nw j h1
          · exact .inr (Nat.le_trans HW.out.on.size h1)
        clear hdv hon hnw he
        refine hK _ _ ?_
        clear hK K
        try simp only [Act.put, List.setIfInBounds_toArray, List.set_cons_succ, List.set_cons_zero]
        refine wpList_op rfl fun K hK => ?_
        go_simp
        refine (new_ok _ _).mono ?_
        rintro e w5 ⟨rfl, rfl⟩
        refine hK _ _ ?_
        clear hK K
        try simp only [Act.put, List.setIfInBounds_toArray, List.set_cons_succ, List.set_cons_zero]
        refine takeL (.nilIface) rfl (by go_simp) ?_
        try simp only [Act.put, List.setIfInBounds_toArray, List.set_cons_succ, List.set_cons_zero]
        refine wpList_nil ?_
        go_wp2_with fail
        go_ret
        exact ⟨_, rfl, .inl ⟨by rw [HRES.out]; exact decide_eq_true HE.out, rfl⟩, F', by rw [HRES.out]; exact HJ4.out, HO4.out, HN4.out⟩
      · have HE := Lib.hid he
        refine wpList_op rfl fun K hK => ?_
        go_simp
        refine (De.dv_flush HW.out.jn.dv HTT.out HLL.out).mono ?_
        rintro e w4 ⟨F', rfl, hdv, hon, hnw⟩
        rw [he]
        have HJ4 := Lib.hid (HW.out.jn.dev hdv hon hnw (flush_len _))
        have HO4 := Lib.hid (HW.out.on.then hon HW.out.nw)
        have HN4 : Hid (∀ j, F' j → F j ∨ w.heap.size ≤ j) := Lib.hid fun j hj => by
          rcases hnw j hj with h1 | h1
          · exact HW.out.nw j h1
          · exact .inr (Nat.le_trans HW.out.on.size h1)
        clear hdv hon hnw he
        refine hK _ _ ?_
        clear hK K
        try simp only [Act.put, List.setIfInBounds_toArray, List.set_cons_succ, List.set_cons_zero]
        refine wpList_op rfl fun K hK => ?_
        go_simp
        refine (new_fault 12 rfl _ _).mono ?_
        rintro e w5 ⟨v, rfl, hf, hb⟩
        have HJ5 := Lib.hid (HJ4.out.below hb)
        have HO5 := Lib.hid (HO4.out.then (Only.of_below (S := fun _ => False) hb) (fun _ h => h.elim))
        have HF5 := Lib.hid hf
        obtain ⟨T, dd, hv⟩ := hf.shape
        subst hv
        clear hf hb
        refine hK _ _ ?_
        clear hK K
        try simp only [Act.put, List.setIfInBounds_toArray, List.set_cons_succ, List.set_cons_zero]
        refine takeL (.iface T dd) rfl (by go_simp) ?_
        try simp only [Act.put, List.setIfInBounds_toArray, List.set_cons_succ, List.set_cons_zero]
        refine wpList_nil ?_
        go_wp2_with fail
        go_ret
        exact ⟨_, rfl, .inr ⟨by rw [HRES.out]; exact decide_eq_false (by rw [HE.out]; decide), HF5.out⟩, F', by rw [HRES.out]; exact HJ5.out, HO5.out, HN4.out⟩
end

end Go.Proofs.YthlnmdihdcfphaaGreatDoor
