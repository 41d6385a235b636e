/- Whether blocks are a chain: package fold's ends and noChain. -/
import Derived.Test.YtjejodgjakjeiaaDoorLinks
import Derived.Test.YtjejodgjakjeiaaDoorApp
namespace Go.Proofs.YtjejodgjakjeiaaDoor
set_option linter.unusedSimpArgs false
set_option linter.unusedVariables false
open Go.RowKit

theorem ends_any (b : Bk) (sv : Value) (hw : b.Wf) (w : World) : Calls Tryd.prog 31 #[.agg (b.arr sv)] w fun e w' => e = .returned (.bool b.ends) ∧ Below w.heap.size w w' := by
  have H := BAt.box hw sv w
  have c0 := H.c0
  have c36 := H.c36
  clear H
  by_cases h1 : b.kind = 1
  all_goals
    go_enter Tryd.func31, Tryd.ntmps31
    go_wp2_with fail
    go_ret
    exact ⟨ret_bool (by simp [Bk.ends, h1, beq_dec]), box_below _ _ _⟩
theorem new_form (s : ByteArray) (w : World) : Calls Tryd.prog 29 #[.int .i64 11, .string s] w fun e w' => ∃ T d t ts, e = .returned (.iface T d) ∧ Chain w' 11 (t :: ts) (.iface T d) ∧ Below w.heap.size w w' :=
  (new_some 11 s w rfl).mono fun e w' ⟨v, h1, h2, h3⟩ => by
    obtain ⟨T, d, rfl⟩ := h2.shape
    exact ⟨T, d, _, _, h1, h2, h3⟩
theorem wrap_form (T : TypeId) (d : Value) (t : ByteArray) (ts : List ByteArray) (s : ByteArray) (w : World) (h : Chain w 11 (t :: ts) (.iface T d)) : Calls Tryd.prog 21 #[.iface T d, .string s] w fun e w' => ∃ T d t ts, e = .returned (.iface T d) ∧ Chain w' 11 (t :: ts) (.iface T d) ∧ Below w.heap.size w w' :=
  (wrap_some _ 11 t ts s w h).mono fun e w' ⟨v, h1, h2, h3⟩ => by
    obtain ⟨T, d, rfl⟩ := h2.shape
    exact ⟨T, d, _, _, h1, h2, h3⟩
/-- What noChain hands back. -/
def NC (L : List Bk) (e : Ending) (w' : World) : Prop := (isChain L = true ∧ e = .returned .nilIface) ∨ (isChain L = false ∧ ∃ T d t ts, e = .returned (.iface T d) ∧ Chain w' 11 (t :: ts) (.iface T d))
theorem NC.no {L : List Bk} {w' : World} {T : TypeId} {d : Value} {t : ByteArray} {ts : List ByteArray} (h : isChain L = false) (hc : Chain w' 11 (t :: ts) (.iface T d)) : NC L (.returned (.iface T d)) w' := .inr ⟨h, T, d, t, ts, rfl, hc⟩
theorem no_chain {L : List Bk} {k : Nat} {b h : Bk} (hk : L[k]? = some b) (h0 : L[0]? = some h) (hn : ¬ okAt h.id (decide (k + 1 = L.length)) b = true) : isChain L = false := by
  rw [← Bool.not_eq_true]
  intro hc
  exact hn (((isChain_iff L).1 hc).2 h h0 k b hk)
set_option maxRecDepth 100000 in
set_option maxHeartbeats 2000000 in
theorem noChain_any (l : List (Bk × Value)) (n : Nat) (hn : l.length = n) (sv : Value) (w : World) (h : BlksAt w sv l) : Calls Tryd.prog 20 #[sv] w fun e w' => NC (l.map (·.1)) e w' ∧ Below w.heap.size w w' := by
  by_cases h3 : 3 < n
  · obtain ⟨a, cap, rfl, -⟩ := h
    rw [hn]
    have hno : Hid (isChain (l.map (·.1)) = false) := Lib.hid (by
      rw [← Bool.not_eq_true, isChain_iff]
      simp
      omega)
    have g1 : decide (3 < (n : Int)) = true := decide_eq_true (by omega)
    clear hn h3
    go_enter Tryd.func20, Tryd.ntmps20
    go_wp2_with fail
    refine (new_form _ _).mono ?_
    rintro e w9 ⟨T, d, t, ts, rfl, hc, hb⟩
    have HB9 := Lib.hid hb
    have HC9 := Lib.hid hc
    clear hc hb
    go_wp2_with fail
    go_ret
    exact ⟨NC.no hno.out HC9.out, HB9.out⟩
  rcases Nat.eq_zero_or_pos n with rfl | hpos
  · obtain rfl : l = [] := List.eq_nil_of_length_eq_zero hn
    obtain ⟨a, cap, rfl, -⟩ := h
    clear hn h3
    go_enter Tryd.func20, Tryd.ntmps20
    go_wp2_with fail
    go_loopg [12] 0 (fun q i wr => i = .int .i64 0 ∧ wr = w)
    case atStart => exact ⟨rfl, rfl⟩
    case round =>
      obtain ⟨rfl, rfl⟩ := hrel
      go_wp2_with fail
      go_ret
      exact ⟨.inl ⟨rfl, rfl⟩, Below.refl _ _⟩
  obtain ⟨g, o, cap, rfl, hg, hc⟩ := h.has (by omega)
  rw [hn]
  have g1 : decide (3 < (n : Int)) = false := decide_eq_false (by omega)
  have HN := Lib.hid hn
  have HC := Lib.hid hc
  have HG := Lib.hid hg
  clear hn hc hg h
  go_enter Tryd.func20, Tryd.ntmps20
  go_wp2_with fail
  go_loopg [12] n (fun q i wr => ∃ k : Nat, n - k ≤ q ∧ k ≤ n ∧ i = .int .i64 k ∧ (∀ j x y, j < k → l[j]? = some x → l[0]? = some y → okAt y.1.id (decide (j + 1 = n)) x.1 = true) ∧ Below w.heap.size w wr)
  case atStart => exact ⟨0, by omega, by omega, rfl, fun j x y hj => by omega, Below.refl _ _⟩
  case round =>
    obtain ⟨k, hq, hk, rfl, hall, hb⟩ := hrel
    have HALL := Lib.hid hall
    have HB := Lib.hid hb
    clear hall hb
    by_cases hlt : k < n
    · obtain ⟨x, hx⟩ : ∃ x, l[k]? = some x := ⟨_, List.getElem?_eq_getElem (by have := HN.out; omega)⟩
      obtain ⟨b, bv⟩ := x
      obtain ⟨y, hy⟩ : ∃ y, l[0]? = some y := ⟨_, List.getElem?_eq_getElem (by have := HN.out; omega)⟩
      obtain ⟨b0, bv0⟩ := y
      obtain ⟨x1, x2, x3⟩ := HC.out k _ hx
      obtain ⟨y1, y2, y3⟩ := HC.out 0 _ hy
      have HW := Lib.hid x1
      have HLN := Lib.hid x2.len
      have F1 := Lib.hid (x3.below HB.out HG.out)
      -- WALK
      have Y1 : Hid (w.cell? ⟨g, o + 1, none⟩ = some (.int .i64 b0.id)) := Lib.hid (by
        have := y3 1 (by rw [Bk.arr_size y1]; decide)
        simpa [Bk.arr, Bk.cells] using this)
      have HX := Lib.hid hx
      have HY := Lib.hid hy
      have HNW := Lib.hid Bk.none_wf
      have HNL : Hid (Len (.slice none 0 0) 0) := Lib.hid ⟨none, 0, rfl⟩
      have HNO : Hid (okAt b0.id (decide (k + 1 = n)) b = false → isChain (l.map (·.1)) = false) := Lib.hid fun hno => no_chain (k := k) (b := b) (h := b0) (by rw [List.getElem?_map, hx]; rfl) (by rw [List.getElem?_map, hy]; rfl) (by rw [List.length_map, HN.out, hno]; decide)
      have HST : Hid (okAt b0.id (decide (k + 1 = n)) b = true → ∀ j x y, j < k + 1 → l[j]? = some x → l[0]? = some y → okAt y.1.id (decide (j + 1 = n)) x.1 = true) := Lib.hid fun hok j x y hj e1 e2 => by
        rcases Nat.lt_succ_iff_lt_or_eq.1 hj with hj | rfl
        · exact HALL.out j x y hj e1 e2
        · rw [hx] at e1
          rw [hy] at e2
          cases e1
          cases e2
          exact hok
      have HGD := Lib.hid fun w => good_any b bv HLN.out HW.out w
      have HEN := Lib.hid fun w => ends_any b bv HW.out w
      obtain ⟨lst, hl⟩ : ∃ lst, decide (k + 1 = n) = lst := ⟨_, rfl⟩
      rw [hl] at HNO HST
      have gl : Hid (((k : Int) == (n : Int) - 1) = lst) := Lib.hid (by
        rw [← hl, beq_dec]
        by_cases h : k + 1 = n
        · rw [decide_eq_true h]; simp; omega
        · rw [decide_eq_false h]; simp; omega)
      have gw : Hid (IntKind.i64.wrap ((n : Int) - 1) = (n : Int) - 1) := Lib.hid (by rw [IntKind.wrap_i64]; omega)
      have gk : decide ((k : Int) < (n : Int)) = true := decide_eq_true (by omega)
      clear x1 x2 x3 y1 y2 y3 hx hy hl
      go_upto_region 5 with fail
      refine wp_region_lit ?_
      refine takeL (.int .i64 k) rfl (by go_simp) ?_
      try simp only [Act.put, List.setIfInBounds_toArray, List.set_cons_succ, List.set_cons_zero]
      refine takeL (.pointer (some ⟨g, o + k * 45, none⟩)) rfl (by go_simp) ?_
      try simp only [Act.put, List.setIfInBounds_toArray, List.set_cons_succ, List.set_cons_zero]
      refine load30 (cs := b.arr bv) F1.out (b.arr_size HW.out bv) rfl rfl ?_
      try simp only [Act.put, List.setIfInBounds_toArray, List.set_cons_succ, List.set_cons_zero]
      clear F1
      refine alloc_g zero30b rfl ?_
      intro w1 hA hb hl
      try simp only [Act.put, List.setIfInBounds_toArray, List.set_cons_succ, List.set_cons_zero]
      clear hl
      have HG2 : Hid (w.heap.size ≤ wr.heap.size) := Lib.hid HB.out.size
      have F3 := Lib.hid (HB.out.trans (hb.mono HB.out.size))
      clear HB
      have F4 : Hid (Blk w1 wr.heap.size (Bk.none.cells (.slice none 0 0))) := Lib.hid hA
      clear hA hb
      generalize wr.heap.size = g5 at *
      clear wr
      refine takeL (.int .i64 k) rfl (by go_simp) ?_
      try simp only [Act.put, List.setIfInBounds_toArray, List.set_cons_succ, List.set_cons_zero]
      refine store_all (cs := (b.arr bv)) F4.out (same30 HNW.out HW.out _ _) (info30s HW.out _) (Bk.arr_one (slice_one HLN.out)) rfl rfl rfl ?_
      intro w6 hD hO hlD
      try simp only [Act.put, List.setIfInBounds_toArray, List.set_cons_succ, List.set_cons_zero]
      clear hlD
      have F7 := Lib.hid (F3.out.trans (hO.below F3.out.size (fun k hk => by rw [hk]; exact HG2.out)))
      clear F3 F4
      have F4' : Hid (Blk w6 g5 (b.cells bv)) := Lib.hid hD
      clear hD hO
      refine wpList_nil ?_
      go_upto_region 6 with fail
      refine wp_region_lit ?_
      refine takeL (.int .i64 k) rfl (by go_simp) ?_
      try simp only [Act.put, List.setIfInBounds_toArray, List.set_cons_succ, List.set_cons_zero]
      refine takeL (.slice (some ⟨g, o, none⟩) n cap) rfl (by go_simp) ?_
      try simp only [Act.put, List.setIfInBounds_toArray, List.set_cons_succ, List.set_cons_zero]
      refine takeL (.int .i64 n) rfl (by go_simp) ?_
      try simp only [Act.put, List.setIfInBounds_toArray, List.set_cons_succ, List.set_cons_zero]
      refine takeL (.int .i64 ((n : Int) - 1)) rfl (by have hq := gw.out; go_simp) ?_
      try simp only [Act.put, List.setIfInBounds_toArray, List.set_cons_succ, List.set_cons_zero]
      refine takeL (.bool lst) rfl (by have hq := gl.out; go_simp) ?_
      try simp only [Act.put, List.setIfInBounds_toArray, List.set_cons_succ, List.set_cons_zero]
      refine takeL (.bool lst) rfl (by go_simp) ?_
      try simp only [Act.put, List.setIfInBounds_toArray, List.set_cons_succ, List.set_cons_zero]
      refine wpList_nil ?_
      cases hgd : b.good
      · rw [hgd] at HGD
        go_upto_region 7 with fail
        refine wp_region_lit ?_
        refine load30 (cs := (b.arr bv)) (Blk.all F4'.out rfl) (b.arr_size HW.out bv) rfl rfl ?_
        try simp only [Act.put, List.setIfInBounds_toArray, List.set_cons_succ, List.set_cons_zero]
        refine wpList_op rfl fun K hK => ?_
        go_simp
        refine (HGD.out _).mono ?_
        rintro e w8 ⟨rfl, hb⟩
        have F9 := Lib.hid (F7.out.trans (hb.mono F7.out.size))
        have F10 := Lib.hid (F4'.out.below hb F4'.out.lt)
        clear F7 F4'
        clear hb
        refine hK _ _ ?_
        clear hK K
        try simp only [Act.put, List.setIfInBounds_toArray, List.set_cons_succ, List.set_cons_zero]
        refine takeL (.bool true) rfl (by go_simp) ?_
        try simp only [Act.put, List.setIfInBounds_toArray, List.set_cons_succ, List.set_cons_zero]
        refine takeL (.bool true) rfl (by go_simp) ?_
        try simp only [Act.put, List.setIfInBounds_toArray, List.set_cons_succ, List.set_cons_zero]
        refine wpList_nil ?_
        go_wp2_with fail
        refine (new_form _ _).mono ?_
        rintro e w9 ⟨T, d, t, ts, rfl, hc, hb⟩
        have HB9 := Lib.hid (F9.out.trans (hb.mono F9.out.size))
        have HC9 := Lib.hid hc
        clear hc hb
        go_wp2_with fail
        go_ret
        exact ⟨NC.no (HNO.out (by simp [okAt, hgd])) HC9.out, HB9.out⟩
      rw [hgd] at HGD
      go_upto_region 7 with fail
      refine wp_region_lit ?_
      refine load30 (cs := (b.arr bv)) (Blk.all F4'.out rfl) (b.arr_size HW.out bv) rfl rfl ?_
      try simp only [Act.put, List.setIfInBounds_toArray, List.set_cons_succ, List.set_cons_zero]
      refine wpList_op rfl fun K hK => ?_
      go_simp
      refine (HGD.out _).mono ?_
      rintro e w8 ⟨rfl, hb⟩
      have F9 := Lib.hid (F7.out.trans (hb.mono F7.out.size))
      have F10 := Lib.hid (F4'.out.below hb F4'.out.lt)
      clear F7 F4'
      clear hb
      refine hK _ _ ?_
      clear hK K
      try simp only [Act.put, List.setIfInBounds_toArray, List.set_cons_succ, List.set_cons_zero]
      refine takeL (.bool false) rfl (by go_simp) ?_
      try simp only [Act.put, List.setIfInBounds_toArray, List.set_cons_succ, List.set_cons_zero]
      refine takeL (.bool false) rfl (by go_simp) ?_
      try simp only [Act.put, List.setIfInBounds_toArray, List.set_cons_succ, List.set_cons_zero]
      refine wpList_nil ?_
      by_cases hk3 : b.kind = 3
      · have hcell := (F10.out.cell (i := 0) (v := .int .i64 b.kind) (b.at0 _))
        have g3 : (b.kind == 3) = true := by simp [hk3]
        go_upto_region 10 with fail
        clear hcell
        go_wp2_with fail
        refine (new_form _ _).mono ?_
        rintro e w9 ⟨T, d, t, ts, rfl, hc, hb⟩
        have HB9 := Lib.hid (F9.out.trans (hb.mono F9.out.size))
        have HC9 := Lib.hid hc
        clear hc hb
        go_wp2_with fail
        go_ret
        exact ⟨NC.no (HNO.out (by simp [okAt, hk3])) HC9.out, HB9.out⟩
      have hcell := (F10.out.cell (i := 0) (v := .int .i64 b.kind) (b.at0 _))
      have g3 : (b.kind == 3) = false := by simp [hk3]
      go_upto_region 11 with fail
      clear hcell g3
      by_cases hid : b.id = b0.id
      rotate_left
      · have g4 : (b.id == b0.id) = false := by simp [hid]
        go_upto_region 11 with fail
        refine startH (fun wq => Below w8.heap.size w8 wq) (by kernel_rfl) ?_
        refine takeH 0 (some 33) (.pointer (some ⟨g5, 1, none⟩)) rfl rfl (by kernel_rfl) (by kernel_rfl) (by kernel_rfl) (fun _ _ _ h => h) rfl (fun wq hS => by go_simp) (Below.refl _ _).drew ?_
        try simp only [Act.put, List.setIfInBounds_toArray, List.set_cons_succ, List.set_cons_zero]
        refine takeH 1 (some 34) (.int .i64 b.id) rfl rfl (by kernel_rfl) (by kernel_rfl) (by kernel_rfl) (fun _ _ _ h => h) rfl (fun wq hS => by have hq := (F10.out.below hS F10.out.lt).cell (i := 1) (v := .int .i64 b.id) (b.at1 _); go_simp) (Below.refl _ _).drew ?_
        try simp only [Act.put, List.setIfInBounds_toArray, List.set_cons_succ, List.set_cons_zero]
        refine takeH 2 (some 35) (.slice (some ⟨g, o, none⟩) n cap) rfl rfl (by kernel_rfl) (by kernel_rfl) (by kernel_rfl) (fun _ _ _ h => h) rfl (fun wq hS => by go_simp) (Below.refl _ _).drew ?_
        try simp only [Act.put, List.setIfInBounds_toArray, List.set_cons_succ, List.set_cons_zero]
        refine takeH 3 (some 36) (.pointer (some ⟨g, o, none⟩)) rfl rfl (by kernel_rfl) (by kernel_rfl) (by kernel_rfl) (fun _ _ _ h => h) rfl (fun wq hS => by go_simp) (Below.refl _ _).drew ?_
        try simp only [Act.put, List.setIfInBounds_toArray, List.set_cons_succ, List.set_cons_zero]
        refine takeH 4 (some 37) (.pointer (some ⟨g, o + 1, none⟩)) rfl rfl (by kernel_rfl) (by kernel_rfl) (by kernel_rfl) (fun _ _ _ h => h) rfl (fun wq hS => by go_simp) (Below.refl _ _).drew ?_
        try simp only [Act.put, List.setIfInBounds_toArray, List.set_cons_succ, List.set_cons_zero]
        refine takeH 5 (some 38) (.int .i64 b0.id) rfl rfl (by kernel_rfl) (by kernel_rfl) (by kernel_rfl) (fun _ _ _ h => h) rfl (fun wq hS => by have hq := ((F9.out.trans (hS.mono F9.out.size)).cell (p := ⟨g, o + 1, none⟩) HG.out).trans Y1.out; go_simp) (Below.refl _ _).drew ?_
        try simp only [Act.put, List.setIfInBounds_toArray, List.set_cons_succ, List.set_cons_zero]
        refine takeH 6 (some 39) (.bool true) rfl rfl (by kernel_rfl) (by kernel_rfl) (by kernel_rfl) (fun _ _ _ h => h) rfl (fun wq hS => by go_simp) (Below.refl _ _).drew ?_
        try simp only [Act.put, List.setIfInBounds_toArray, List.set_cons_succ, List.set_cons_zero]
        refine takeH 7 (some 32) (.bool true) rfl rfl (by kernel_rfl) (by kernel_rfl) (by kernel_rfl) (fun _ _ _ h => h) rfl (fun wq hS => by go_simp) (Below.refl _ _).drew ?_
        try simp only [Act.put, List.setIfInBounds_toArray, List.set_cons_succ, List.set_cons_zero]
        refine wpAnyH_done (by kernel_rfl) ?_ _
        have hb : Below w8.heap.size w8 w8.drew := (Below.refl _ _).drew
        generalize w8.drew = w11 at *
        have F12 := Lib.hid (F9.out.trans (hb.mono F9.out.size))
        have F13 := Lib.hid (F10.out.below hb F10.out.lt)
        clear F9 F10
        clear hb
        go_upto_region 12 with fail
        go_wp2_with fail
        refine (new_form _ _).mono ?_
        rintro e w9 ⟨T, d, t, ts, rfl, hc, hb⟩
        have HB9 := Lib.hid (F12.out.trans (hb.mono F12.out.size))
        have HC9 := Lib.hid hc
        clear hc hb
        go_wp2_with fail
        go_ret
        exact ⟨NC.no (HNO.out (by simp [okAt, hid])) HC9.out, HB9.out⟩
      have g4 : (b.id == b0.id) = true := by simp [hid]
      go_upto_region 11 with fail
      refine startH (fun wq => Below w8.heap.size w8 wq) (by kernel_rfl) ?_
      refine takeH 0 (some 33) (.pointer (some ⟨g5, 1, none⟩)) rfl rfl (by kernel_rfl) (by kernel_rfl) (by kernel_rfl) (fun _ _ _ h => h) rfl (fun wq hS => by go_simp) (Below.refl _ _).drew ?_
      try simp only [Act.put, List.setIfInBounds_toArray, List.set_cons_succ, List.set_cons_zero]
      refine takeH 1 (some 34) (.int .i64 b.id) rfl rfl (by kernel_rfl) (by kernel_rfl) (by kernel_rfl) (fun _ _ _ h => h) rfl (fun wq hS => by have hq := (F10.out.below hS F10.out.lt).cell (i := 1) (v := .int .i64 b.id) (b.at1 _); go_simp) (Below.refl _ _).drew ?_
      try simp only [Act.put, List.setIfInBounds_toArray, List.set_cons_succ, List.set_cons_zero]
      refine takeH 2 (some 35) (.slice (some ⟨g, o, none⟩) n cap) rfl rfl (by kernel_rfl) (by kernel_rfl) (by kernel_rfl) (fun _ _ _ h => h) rfl (fun wq hS => by go_simp) (Below.refl _ _).drew ?_
      try simp only [Act.put, List.setIfInBounds_toArray, List.set_cons_succ, List.set_cons_zero]
      refine takeH 3 (some 36) (.pointer (some ⟨g, o, none⟩)) rfl rfl (by kernel_rfl) (by kernel_rfl) (by kernel_rfl) (fun _ _ _ h => h) rfl (fun wq hS => by go_simp) (Below.refl _ _).drew ?_
      try simp only [Act.put, List.setIfInBounds_toArray, List.set_cons_succ, List.set_cons_zero]
      refine takeH 4 (some 37) (.pointer (some ⟨g, o + 1, none⟩)) rfl rfl (by kernel_rfl) (by kernel_rfl) (by kernel_rfl) (fun _ _ _ h => h) rfl (fun wq hS => by go_simp) (Below.refl _ _).drew ?_
      try simp only [Act.put, List.setIfInBounds_toArray, List.set_cons_succ, List.set_cons_zero]
      refine takeH 5 (some 38) (.int .i64 b0.id) rfl rfl (by kernel_rfl) (by kernel_rfl) (by kernel_rfl) (fun _ _ _ h => h) rfl (fun wq hS => by have hq := ((F9.out.trans (hS.mono F9.out.size)).cell (p := ⟨g, o + 1, none⟩) HG.out).trans Y1.out; go_simp) (Below.refl _ _).drew ?_
      try simp only [Act.put, List.setIfInBounds_toArray, List.set_cons_succ, List.set_cons_zero]
      refine takeH 6 (some 39) (.bool false) rfl rfl (by kernel_rfl) (by kernel_rfl) (by kernel_rfl) (fun _ _ _ h => h) rfl (fun wq hS => by go_simp) (Below.refl _ _).drew ?_
      try simp only [Act.put, List.setIfInBounds_toArray, List.set_cons_succ, List.set_cons_zero]
      refine takeH 7 (some 32) (.bool false) rfl rfl (by kernel_rfl) (by kernel_rfl) (by kernel_rfl) (fun _ _ _ h => h) rfl (fun wq hS => by go_simp) (Below.refl _ _).drew ?_
      try simp only [Act.put, List.setIfInBounds_toArray, List.set_cons_succ, List.set_cons_zero]
      refine wpAnyH_done (by kernel_rfl) ?_ _
      have hb : Below w8.heap.size w8 w8.drew := (Below.refl _ _).drew
      generalize w8.drew = w11 at *
      have F12 := Lib.hid (F9.out.trans (hb.mono F9.out.size))
      have F13 := Lib.hid (F10.out.below hb F10.out.lt)
      clear F9 F10
      clear hb
      cases hen : b.ends
      · rw [hen] at HEN
        cases lst
        · go_upto_region 13 with fail
          refine wp_region_lit ?_
          refine load30 (cs := (b.arr bv)) (Blk.all F13.out rfl) (b.arr_size HW.out bv) rfl rfl ?_
          try simp only [Act.put, List.setIfInBounds_toArray, List.set_cons_succ, List.set_cons_zero]
          refine wpList_op rfl fun K hK => ?_
          go_simp
          refine (HEN.out _).mono ?_
          rintro e w14 ⟨rfl, hb⟩
          have F15 := Lib.hid (F12.out.trans (hb.mono F12.out.size))
          have F16 := Lib.hid (F13.out.below hb F13.out.lt)
          clear F12 F13
          clear hb
          refine hK _ _ ?_
          clear hK K
          try simp only [Act.put, List.setIfInBounds_toArray, List.set_cons_succ, List.set_cons_zero]
          refine takeL (.bool false) rfl (by go_simp) ?_
          try simp only [Act.put, List.setIfInBounds_toArray, List.set_cons_succ, List.set_cons_zero]
          refine passL rfl ?_
          try simp only [Act.put, List.setIfInBounds_toArray, List.set_cons_succ, List.set_cons_zero]
          refine passL rfl ?_
          try simp only [Act.put, List.setIfInBounds_toArray, List.set_cons_succ, List.set_cons_zero]
          refine takeL (.bool false) rfl (by go_simp) ?_
          try simp only [Act.put, List.setIfInBounds_toArray, List.set_cons_succ, List.set_cons_zero]
          refine takeL (.bool false) rfl (by go_simp) ?_
          try simp only [Act.put, List.setIfInBounds_toArray, List.set_cons_succ, List.set_cons_zero]
          refine wpList_nil ?_
          go_upto_region 15 with fail
          refine wp_region_lit ?_
          refine load30 (cs := (b.arr bv)) (Blk.all F16.out rfl) (b.arr_size HW.out bv) rfl rfl ?_
          try simp only [Act.put, List.setIfInBounds_toArray, List.set_cons_succ, List.set_cons_zero]
          refine wpList_op rfl fun K hK => ?_
          go_simp
          refine (HEN.out _).mono ?_
          rintro e w17 ⟨rfl, hb⟩
          have F18 := Lib.hid (F15.out.trans (hb.mono F15.out.size))
          have F19 := Lib.hid (F16.out.below hb F16.out.lt)
          clear F15 F16
          clear hb
          refine hK _ _ ?_
          clear hK K
          try simp only [Act.put, List.setIfInBounds_toArray, List.set_cons_succ, List.set_cons_zero]
          refine takeL (.bool true) rfl (by go_simp) ?_
          try simp only [Act.put, List.setIfInBounds_toArray, List.set_cons_succ, List.set_cons_zero]
          refine takeL (.bool true) rfl (by go_simp) ?_
          try simp only [Act.put, List.setIfInBounds_toArray, List.set_cons_succ, List.set_cons_zero]
          refine takeL (.bool false) rfl (by go_simp) ?_
          try simp only [Act.put, List.setIfInBounds_toArray, List.set_cons_succ, List.set_cons_zero]
          refine takeL (.bool false) rfl (by go_simp) ?_
          try simp only [Act.put, List.setIfInBounds_toArray, List.set_cons_succ, List.set_cons_zero]
          refine takeL (.bool false) rfl (by go_simp) ?_
          try simp only [Act.put, List.setIfInBounds_toArray, List.set_cons_succ, List.set_cons_zero]
          refine wpList_nil ?_
          go_wp2_with fail
          go_roundg (n - (k + 1))
          case measure => omega
          case rel => exact ⟨k + 1, by omega, by omega, by go_num, HST.out (by simp [okAt, hgd, hk3, hid, hen]), F18.out⟩
        · go_upto_region 13 with fail
          refine wp_region_lit ?_
          refine load30 (cs := (b.arr bv)) (Blk.all F13.out rfl) (b.arr_size HW.out bv) rfl rfl ?_
          try simp only [Act.put, List.setIfInBounds_toArray, List.set_cons_succ, List.set_cons_zero]
          refine wpList_op rfl fun K hK => ?_
          go_simp
          refine (HEN.out _).mono ?_
          rintro e w14 ⟨rfl, hb⟩
          have F15 := Lib.hid (F12.out.trans (hb.mono F12.out.size))
          have F16 := Lib.hid (F13.out.below hb F13.out.lt)
          clear F12 F13
          clear hb
          refine hK _ _ ?_
          clear hK K
          try simp only [Act.put, List.setIfInBounds_toArray, List.set_cons_succ, List.set_cons_zero]
          refine takeL (.bool false) rfl (by go_simp) ?_
          try simp only [Act.put, List.setIfInBounds_toArray, List.set_cons_succ, List.set_cons_zero]
          refine passL rfl ?_
          try simp only [Act.put, List.setIfInBounds_toArray, List.set_cons_succ, List.set_cons_zero]
          refine passL rfl ?_
          try simp only [Act.put, List.setIfInBounds_toArray, List.set_cons_succ, List.set_cons_zero]
          refine takeL (.bool false) rfl (by go_simp) ?_
          try simp only [Act.put, List.setIfInBounds_toArray, List.set_cons_succ, List.set_cons_zero]
          refine takeL (.bool false) rfl (by go_simp) ?_
          try simp only [Act.put, List.setIfInBounds_toArray, List.set_cons_succ, List.set_cons_zero]
          refine wpList_nil ?_
          go_upto_region 15 with fail
          refine wp_region_lit ?_
          refine load30 (cs := (b.arr bv)) (Blk.all F16.out rfl) (b.arr_size HW.out bv) rfl rfl ?_
          try simp only [Act.put, List.setIfInBounds_toArray, List.set_cons_succ, List.set_cons_zero]
          refine wpList_op rfl fun K hK => ?_
          go_simp
          refine (HEN.out _).mono ?_
          rintro e w17 ⟨rfl, hb⟩
          have F18 := Lib.hid (F15.out.trans (hb.mono F15.out.size))
          have F19 := Lib.hid (F16.out.below hb F16.out.lt)
          clear F15 F16
          clear hb
          refine hK _ _ ?_
          clear hK K
          try simp only [Act.put, List.setIfInBounds_toArray, List.set_cons_succ, List.set_cons_zero]
          refine takeL (.bool true) rfl (by go_simp) ?_
          try simp only [Act.put, List.setIfInBounds_toArray, List.set_cons_succ, List.set_cons_zero]
          refine takeL (.bool true) rfl (by go_simp) ?_
          try simp only [Act.put, List.setIfInBounds_toArray, List.set_cons_succ, List.set_cons_zero]
          refine takeL (.bool true) rfl (by go_simp) ?_
          try simp only [Act.put, List.setIfInBounds_toArray, List.set_cons_succ, List.set_cons_zero]
          refine takeL (.bool true) rfl (by go_simp) ?_
          try simp only [Act.put, List.setIfInBounds_toArray, List.set_cons_succ, List.set_cons_zero]
          refine takeL (.bool true) rfl (by go_simp) ?_
          try simp only [Act.put, List.setIfInBounds_toArray, List.set_cons_succ, List.set_cons_zero]
          refine wpList_nil ?_
          go_upto_region 16 with fail
          go_wp2_with fail
          refine (new_form _ _).mono ?_
          rintro e w9 ⟨T, d, t, ts, rfl, hc, hb⟩
          have HB9 := Lib.hid (F18.out.trans (hb.mono F18.out.size))
          have HC9 := Lib.hid hc
          clear hc hb
          go_wp2_with fail
          go_ret
          exact ⟨NC.no (HNO.out (by simp [okAt, hen])) HC9.out, HB9.out⟩
      · rw [hen] at HEN
        cases lst
        · go_upto_region 13 with fail
          refine wp_region_lit ?_
          refine load30 (cs := (b.arr bv)) (Blk.all F13.out rfl) (b.arr_size HW.out bv) rfl rfl ?_
          try simp only [Act.put, List.setIfInBounds_toArray, List.set_cons_succ, List.set_cons_zero]
          refine wpList_op rfl fun K hK => ?_
          go_simp
          refine (HEN.out _).mono ?_
          rintro e w14 ⟨rfl, hb⟩
          have F15 := Lib.hid (F12.out.trans (hb.mono F12.out.size))
          have F16 := Lib.hid (F13.out.below hb F13.out.lt)
          clear F12 F13
          clear hb
          refine hK _ _ ?_
          clear hK K
          try simp only [Act.put, List.setIfInBounds_toArray, List.set_cons_succ, List.set_cons_zero]
          refine takeL (.bool true) rfl (by go_simp) ?_
          try simp only [Act.put, List.setIfInBounds_toArray, List.set_cons_succ, List.set_cons_zero]
          refine takeL (.bool false) rfl (by go_simp) ?_
          try simp only [Act.put, List.setIfInBounds_toArray, List.set_cons_succ, List.set_cons_zero]
          refine takeL (.bool true) rfl (by go_simp) ?_
          try simp only [Act.put, List.setIfInBounds_toArray, List.set_cons_succ, List.set_cons_zero]
          refine takeL (.bool true) rfl (by go_simp) ?_
          try simp only [Act.put, List.setIfInBounds_toArray, List.set_cons_succ, List.set_cons_zero]
          refine takeL (.bool true) rfl (by go_simp) ?_
          try simp only [Act.put, List.setIfInBounds_toArray, List.set_cons_succ, List.set_cons_zero]
          refine wpList_nil ?_
          go_upto_region 14 with fail
          go_wp2_with fail
          refine (new_form _ _).mono ?_
          rintro e w9 ⟨T, d, t, ts, rfl, hc, hb⟩
          have HB9 := Lib.hid (F15.out.trans (hb.mono F15.out.size))
          have HC9 := Lib.hid hc
          clear hc hb
          go_wp2_with fail
          go_ret
          exact ⟨NC.no (HNO.out (by simp [okAt, hen])) HC9.out, HB9.out⟩
        · go_upto_region 13 with fail
          refine wp_region_lit ?_
          refine load30 (cs := (b.arr bv)) (Blk.all F13.out rfl) (b.arr_size HW.out bv) rfl rfl ?_
          try simp only [Act.put, List.setIfInBounds_toArray, List.set_cons_succ, List.set_cons_zero]
          refine wpList_op rfl fun K hK => ?_
          go_simp
          refine (HEN.out _).mono ?_
          rintro e w14 ⟨rfl, hb⟩
          have F15 := Lib.hid (F12.out.trans (hb.mono F12.out.size))
          have F16 := Lib.hid (F13.out.below hb F13.out.lt)
          clear F12 F13
          clear hb
          refine hK _ _ ?_
          clear hK K
          try simp only [Act.put, List.setIfInBounds_toArray, List.set_cons_succ, List.set_cons_zero]
          refine takeL (.bool true) rfl (by go_simp) ?_
          try simp only [Act.put, List.setIfInBounds_toArray, List.set_cons_succ, List.set_cons_zero]
          refine takeL (.bool true) rfl (by go_simp) ?_
          try simp only [Act.put, List.setIfInBounds_toArray, List.set_cons_succ, List.set_cons_zero]
          refine takeL (.bool false) rfl (by go_simp) ?_
          try simp only [Act.put, List.setIfInBounds_toArray, List.set_cons_succ, List.set_cons_zero]
          refine takeL (.bool false) rfl (by go_simp) ?_
          try simp only [Act.put, List.setIfInBounds_toArray, List.set_cons_succ, List.set_cons_zero]
          refine takeL (.bool false) rfl (by go_simp) ?_
          try simp only [Act.put, List.setIfInBounds_toArray, List.set_cons_succ, List.set_cons_zero]
          refine wpList_nil ?_
          go_upto_region 15 with fail
          refine wp_region_lit ?_
          refine load30 (cs := (b.arr bv)) (Blk.all F16.out rfl) (b.arr_size HW.out bv) rfl rfl ?_
          try simp only [Act.put, List.setIfInBounds_toArray, List.set_cons_succ, List.set_cons_zero]
          refine wpList_op rfl fun K hK => ?_
          go_simp
          refine (HEN.out _).mono ?_
          rintro e w17 ⟨rfl, hb⟩
          have F18 := Lib.hid (F15.out.trans (hb.mono F15.out.size))
          have F19 := Lib.hid (F16.out.below hb F16.out.lt)
          clear F15 F16
          clear hb
          refine hK _ _ ?_
          clear hK K
          try simp only [Act.put, List.setIfInBounds_toArray, List.set_cons_succ, List.set_cons_zero]
          refine takeL (.bool false) rfl (by go_simp) ?_
          try simp only [Act.put, List.setIfInBounds_toArray, List.set_cons_succ, List.set_cons_zero]
          refine takeL (.bool false) rfl (by go_simp) ?_
          try simp only [Act.put, List.setIfInBounds_toArray, List.set_cons_succ, List.set_cons_zero]
          refine passL rfl ?_
          try simp only [Act.put, List.setIfInBounds_toArray, List.set_cons_succ, List.set_cons_zero]
          refine takeL (.bool false) rfl (by go_simp) ?_
          try simp only [Act.put, List.setIfInBounds_toArray, List.set_cons_succ, List.set_cons_zero]
          refine takeL (.bool false) rfl (by go_simp) ?_
          try simp only [Act.put, List.setIfInBounds_toArray, List.set_cons_succ, List.set_cons_zero]
          refine wpList_nil ?_
          go_wp2_with fail
          go_roundg (n - (k + 1))
          case measure => omega
          case rel => exact ⟨k + 1, by omega, by omega, by go_num, HST.out (by simp [okAt, hgd, hk3, hid, hen]), F18.out⟩
    · obtain rfl : k = n := by omega
      have gk : decide ((k : Int) < (k : Int)) = false := by simp
      go_wp2_with fail
      go_ret
      refine ⟨.inl ⟨(isChain_iff _).2 ⟨by rw [List.length_map, HN.out]; omega, fun y0 hy j x hx => ?_⟩, rfl⟩, HB.out⟩
      rw [List.getElem?_map] at hx hy
      obtain ⟨x', hx', rfl⟩ := Option.map_eq_some_iff.1 hx
      obtain ⟨y', hy', rfl⟩ := Option.map_eq_some_iff.1 hy
      have hj : j < k := by
        have := (List.getElem?_eq_some_iff.1 hx').1
        have := HN.out
        omega
      have := HALL.out j x' y' hj hx' hy'
      rwa [List.length_map, HN.out]
end Go.Proofs.YtjejodgjakjeiaaDoor
