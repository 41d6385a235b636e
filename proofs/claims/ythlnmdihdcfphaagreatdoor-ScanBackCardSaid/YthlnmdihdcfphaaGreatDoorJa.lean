/- Where a journal may be: package journal's Good and what it asks. -/
import Derived.Test.YthlnmdihdcfphaaGreatDoorPa
import Derived.Test.YthlnmdihdcfphaaGreatDoorHc
import Derived.Test.YthlnmdihdcfphaaGreatDoorGg
import Derived.Test.YthlnmdihdcfphaaGreatDoorSh
import Derived.BigQuiet
import Derived.Deep.QuietTactic
import Derived.RegionTactic
namespace Go.Proofs.YthlnmdihdcfphaaGreatDoor
set_option linter.unusedSimpArgs false
set_option linter.unusedVariables false
open Go.RowKit

theorem ret_boolJ {a b : Bool} (h : a = b) : Ending.returned (.bool a) = Ending.returned (.bool b) := congrArg (fun v => Ending.returned (.bool v)) h
instance (g : Pl.Gm) : Decidable g.Ok := by unfold Pl.Gm.Ok; exact inferInstance
/-- Where a journal is. -/
structure Ja where
  seg : Int
  off : Int
  seq : Int
  free : List Int
def isSeg (g : Pl.Gm) (s : Int) : Bool := decide (0 ≤ s) && decide (s < g.s)
/-- May the i-th of those that are free be it? -/
def okAt (g : Pl.Gm) (seg : Int) (l : List Int) (i : Nat) : Bool := isSeg g (l.getD i 0) && !decide (l.getD i 0 = seg) && (decide (i = 0) || decide (l.getD (i - 1) 0 < l.getD i 0))
def freeOk (g : Pl.Gm) (seg : Int) (l : List Int) : Bool := (List.range l.length).all fun i => okAt g seg l i
def Ja.good (g : Pl.Gm) (a : Ja) : Bool := decide g.Ok && isSeg g a.seg && decide (0 ≤ a.off) && decide (a.off ≤ g.l) && freeOk g a.seg a.free
theorem freeOk_all {g : Pl.Gm} {seg : Int} {l : List Int} (h : ∀ i, i < l.length → okAt g seg l i = true) : freeOk g seg l = true := List.all_eq_true.2 fun i hi => h i (List.mem_range.1 hi)
theorem freeOk_no {g : Pl.Gm} {seg : Int} {l : List Int} {i : Nat} (hi : i < l.length) (h : okAt g seg l i = false) : freeOk g seg l = false := by
  rw [← Bool.not_eq_true]
  intro hn
  have := List.all_eq_true.1 hn i (List.mem_range.2 hi)
  rw [h] at this
  cases this
theorem freeOk_at {g : Pl.Gm} {seg : Int} {l : List Int} (h : freeOk g seg l = true) (i : Nat) (hi : i < l.length) : okAt g seg l i = true := List.all_eq_true.1 h i (List.mem_range.2 hi)

theorem isSeg_any (g : Pl.Gm) (n : Int) (w : World) : Calls Tryz.prog 54 #[g.v, .int .i64 n] w fun e w' => e = .returned (.bool (isSeg g n)) ∧ Below w.heap.size w w' := by
  obtain ⟨p, s, l, f⟩ := g
  have HB := Lib.hid fun (o : Obj) => (Below.refl w.heap.size w).alloc (Nat.le_refl _) o
  unfold isSeg
  simp only
  by_cases h0 : 0 ≤ n
  · by_cases h1 : n < s
    · rw [decide_eq_true h0, decide_eq_true h1]
      go_enter Tryz.func54, Tryz.ntmps54
      go_wp2_with fail
      go_ret
      exact ⟨rfl, HB.out _⟩
    · rw [decide_eq_true h0, decide_eq_false h1]
      go_enter Tryz.func54, Tryz.ntmps54
      go_wp2_with fail
      go_ret
      exact ⟨rfl, HB.out _⟩
  · rw [decide_eq_false h0]
    go_enter Tryz.func54, Tryz.ntmps54
    go_wp2_with fail
    go_ret
    exact ⟨rfl, HB.out _⟩
theorem equalIn_nil {P : Program} (w : World) (d : Nat) (t e : TypeId) (a : Addr) (l c : Nat) (h : P.underlying t = some (.slice e)) : (Op.equalIn (d + 1) t (.slice (some a) l c) (.slice none 0 0)).run P w = .ok false w := by
  simp [Op.equalIn, run_underlying h]
theorem equalIn_none {P : Program} (w : World) (d : Nat) (t e : TypeId) (l c : Nat) (h : P.underlying t = some (.slice e)) : (Op.equalIn (d + 1) t (.slice none l c) (.slice none 0 0)).run P w = .ok true w := by
  simp [Op.equalIn, run_underlying h]
theorem eql_noneI (w : World) (l c : Nat) : (binOp .eql 37 (.slice none l c) (.slice none 0 0)).run Tryz.prog w = .ok (.bool true) w := by
  have h : (Op.equal 37 (.slice none l c) (.slice none 0 0)).run Tryz.prog w = .ok true w := equalIn_none w 9999 37 3 l c Tryz.underlying37
  simp [binOp, h]
theorem eql_nilI (w : World) (a : Addr) (l c : Nat) : (binOp .eql 37 (.slice (some a) l c) (.slice none 0 0)).run Tryz.prog w = .ok (.bool false) w := by
  have h : (Op.equal 37 (.slice (some a) l c) (.slice none 0 0)).run Tryz.prog w = .ok false w := equalIn_nil w 9999 37 3 a l c Tryz.underlying37
  simp [binOp, h]
set_option maxRecDepth 100000 in
/-- A copy. -/
theorem clone_any (l : List Int) (hn : l.length ≤ 1000000) (sv : Value) (w : World) (h : IntsAt w sv l) : Calls Tryz.prog 41 #[sv] w fun r w' => ∃ tv, r = .returned tv ∧ OwnN w' w.heap.size tv l ∧ Below w.heap.size w w' := by
  obtain ⟨a, c, rfl, hc⟩ := id h
  cases a with
  | none =>
    have hl : l = [] := by
      cases l with
      | nil => rfl
      | cons x r => obtain ⟨b, o, hx, -⟩ := hc 0 x rfl; cases hx
    subst hl
    have HO := Lib.hid (OwnN.nil w w.heap.size)
    have hq := fun w => eql_noneI w 0 c
    clear hc h
    simp only [List.length_nil]
    go_enter Tryz.func41, Tryz.ntmps41
    go_wp2_with fail
    go_ret
    exact ⟨_, rfl, HO.out, Below.refl _ _⟩
  | some b =>
    obtain ⟨n, hnn⟩ : ∃ n, l.length = n := ⟨_, rfl⟩
    rw [hnn] at h hn ⊢
    have HN := Lib.hid hnn
    have HY := Lib.hid h
    have hq := fun w => eql_nilI w b n c
    clear hc h hnn
    go_enter Tryz.func41, Tryz.ntmps41
    go_upto_region 3 with fail
    refine wp_region_lit ?_
    refine wpList_run (.slice (some ⟨w.heap.size, 0, none⟩) 0 0) (w.alloc (.cells #[] 3)) rfl (by go_simp) ?_
    try simp only [Act.put, List.setIfInBounds_toArray, List.set_cons_succ, List.set_cons_zero]
    have hb1 := (Below.refl w.heap.size w).alloc (Nat.le_refl _) (.cells #[] 3)
    have hO := OwnN.lit w w.heap.size (Nat.le_refl _) [] (by simp) #[] rfl
    refine takeL (.slice (some b) n c) rfl (by go_simp) ?_
    try simp only [Act.put, List.setIfInBounds_toArray, List.set_cons_succ, List.set_cons_zero]
    refine app_LNg hO hb1.size (HY.out.below hb1) (by rw [HN.out]; simp only [List.length_nil]; omega) rfl rfl rfl ?_
    intro tv w3 ho hg
    try simp only [Act.put, List.setIfInBounds_toArray, List.set_cons_succ, List.set_cons_zero]
    rw [List.nil_append] at ho
    have HO := Lib.hid ho
    have HB := Lib.hid (hb1.trans (grown_below hg hb1.size fun k hk => (hO.lt k hk).1))
    obtain ⟨ta, tc, htv⟩ := ho.ints.form
    rw [HN.out] at htv
    subst htv
    clear hb1 hO ho hg
    refine takeL (.slice ta n tc) rfl (by go_simp) ?_
    try simp only [Act.put, List.setIfInBounds_toArray, List.set_cons_succ, List.set_cons_zero]
    refine wpList_nil ?_
    go_wp2_with fail
    go_ret
    exact ⟨_, rfl, HO.out, HB.out⟩
set_option maxRecDepth 100000 in
set_option maxHeartbeats 1000000 in
theorem mayBeFree_any (g : Pl.Gm) (a : Ja) (fv : Value) (n : Nat) (hn : a.free.length = n) (hbig : n ≤ 9223372036854775807) (w : World) (h : IntsAt w fv a.free) : Calls Tryz.prog 55 #[g.v, .agg #[.int .i64 a.seg, .int .i64 a.off, .int .u32 a.seq, fv]] w fun e w' => e = .returned (.bool (freeOk g a.seg a.free)) ∧ Below w.heap.size w w' := by
  obtain ⟨seg, off, seq, l⟩ := a
  simp only at hn h ⊢
  obtain ⟨fa, fc, rfl, hc⟩ := id h
  rw [hn] at h ⊢
  have HC := Lib.hid hc
  have HN := Lib.hid hn
  have HIS := Lib.hid fun (x : Int) w => isSeg_any g x w
  obtain ⟨p, s, sl, f⟩ := g
  have HG1 : Hid (∀ wr, Below (w.heap.size + 2) (((w.alloc (.cells #[.int .i64 p, .int .i64 s, .int .i64 sl, .int .i64 f] 23)).alloc (.cells #[.int .i64 seg, .int .i64 off, .int .u32 seq, .slice fa n fc] 40))) wr →
    Below w.heap.size w wr ∧ Blk wr w.heap.size [.int .i64 p, .int .i64 s, .int .i64 sl, .int .i64 f] ∧ Blk wr (w.heap.size + 1) [.int .i64 seg, .int .i64 off, .int .u32 seq, .slice fa n fc]) := Lib.hid (fun wr hb => by
      have h1 := Blk.new w #[.int .i64 p, .int .i64 s, .int .i64 sl, .int .i64 f] 23
      have h2 := Blk.new (w.alloc (.cells #[.int .i64 p, .int .i64 s, .int .i64 sl, .int .i64 f] 23)) #[.int .i64 seg, .int .i64 off, .int .u32 seq, .slice fa n fc] 40
      have e : (w.alloc (.cells #[.int .i64 p, .int .i64 s, .int .i64 sl, .int .i64 f] 23)).heap.size = w.heap.size + 1 := by simp
      rw [e] at h2
      refine ⟨(((Below.refl w.heap.size w).alloc (Nat.le_refl _) _).alloc (by simp) _).trans (hb.mono (by omega)), (h1.alloc _).below hb (by omega), h2.below hb (by omega)⟩)
  have HS2 : Hid (((w.alloc (.cells #[.int .i64 p, .int .i64 s, .int .i64 sl, .int .i64 f] 23)).alloc (.cells #[.int .i64 seg, .int .i64 off, .int .u32 seq, .slice fa n fc] 40)).heap.size = w.heap.size + 2) := Lib.hid (by simp)
  have hlen : (n : Int) ≤ 9223372036854775807 := by omega
  clear hc h hn hbig
  go_enter Tryz.func55, Tryz.ntmps55
  go_wp2_with fail
  generalize (w.alloc (.cells #[.int .i64 p, .int .i64 s, .int .i64 sl, .int .i64 f] 23)).alloc (.cells #[.int .i64 seg, .int .i64 off, .int .u32 seq, .slice fa n fc] 40) = w2 at *
  go_loopg [10] n (fun q i wr => ∃ k : Nat, n - k ≤ q ∧ k ≤ n ∧ i = .int .i64 k ∧ (∀ j, j < k → okAt ⟨p, s, sl, f⟩ seg l j = true) ∧ Below (w.heap.size + 2) w2 wr)
  case atStart => exact ⟨0, by omega, by omega, rfl, fun j hj => by omega, Below.refl _ _⟩
  case round =>
    obtain ⟨k, hq, hk, rfl, hall, hb⟩ := hrel
    have HAL := Lib.hid hall
    have HB := Lib.hid hb
    obtain ⟨hB0, hg0, ha0⟩ := HG1.out wr hb
    have HB0 := Lib.hid hB0
    clear hall hb hB0
    by_cases hkn : k < n
    · have gk : decide ((k : Int) < (n : Int)) = true := decide_eq_true (by omega)
      have hk0 : (k : Int) < (n : Int) := by omega
      obtain ⟨x, hx⟩ : ∃ x, l[k]? = some x := ⟨_, List.getElem?_eq_getElem (by have := HN.out; omega)⟩
      obtain ⟨b, o, rfl, cx0⟩ := HC.out k x hx
      have HX := Lib.hid hx
      have cx := (HB0.out.cell (block_lt_of_cell cx0)).trans cx0
      have HXD : Hid (l.getD k 0 = x) := Lib.hid (by simp [hx])
      have HLK : Hid (k < l.length) := Lib.hid (by have := HN.out; omega)
      have g0 := hg0.cell (i := 0) rfl
      have g1 := hg0.cell (i := 1) rfl
      have g2 := hg0.cell (i := 2) rfl
      have g3 := hg0.cell (i := 3) rfl
      have a0 := ha0.cell (i := 0) rfl
      clear hx cx0
      go_wp2_with fail
      refine (HIS.out x _).mono ?_
      rintro e w3 ⟨rfl, hb3⟩
      have HB3 : Hid (Below (w.heap.size + 2) w2 w3) := Lib.hid (HB.out.trans (hb3.mono (by have := HB.out.size; have := HS2.out; omega)))
      obtain ⟨hB0', hg0', ha0'⟩ := HG1.out w3 HB3.out
      have HB4 := Lib.hid hB0'
      clear g0 g1 g2 g3 a0 cx hb3 hB0'
      have a0 := ha0'.cell (i := 0) rfl
      have a3 := ha0'.cell (i := 3) rfl
      cases hi : isSeg ⟨p, s, sl, f⟩ x
      · have HNO : Hid (freeOk ⟨p, s, sl, f⟩ seg l = false) := Lib.hid (freeOk_no HLK.out (by unfold okAt; rw [HXD.out, hi]; rfl))
        go_wp2_with fail
        go_ret
        exact ⟨ret_boolJ HNO.out.symm, HB4.out⟩
      by_cases hxs : x = seg
      · have HNO : Hid (freeOk ⟨p, s, sl, f⟩ seg l = false) := Lib.hid (freeOk_no HLK.out (by unfold okAt; rw [HXD.out, decide_eq_true hxs]; simp))
        have hxb : (x == seg) = true := by simp [hxs]
        clear hxs
        go_wp2_with fail
        go_ret
        exact ⟨ret_boolJ HNO.out.symm, HB4.out⟩
      have HXS := Lib.hid hxs
      have hxb : (x == seg) = false := by simp [hxs]
      clear hxs
      by_cases hk1 : k = 0
      · have HST : Hid (∀ j, j < k + 1 → okAt ⟨p, s, sl, f⟩ seg l j = true) := Lib.hid (fun j hj => by
          by_cases h : j < k
          · exact HAL.out j h
          · obtain rfl : j = k := by omega
            unfold okAt
            rw [HXD.out, hi, decide_eq_false HXS.out, decide_eq_true hk1]
            rfl)
        have gz : decide (0 < (k : Int)) = false := decide_eq_false (by omega)
        have gz2 : decide (0 < k) = false := decide_eq_false (by omega)
        have gz3 : ¬ 0 < k := by omega
        clear hk1 hi
        go_wp2_with fail
        go_roundg (n - (k + 1))
        case measure => omega
        case rel => exact ⟨k + 1, by omega, by omega, by go_num, HST.out, HB3.out⟩
      · have gz : decide (0 < (k : Int)) = true := decide_eq_true (by omega)
        have hk2 : (0 : Int) ≤ (k : Int) - 1 := by omega
        have hk3 : (k : Int) - 1 < (n : Int) := by omega
        obtain ⟨y, hy⟩ : ∃ y, l[k - 1]? = some y := ⟨_, List.getElem?_eq_getElem (by have := HN.out; omega)⟩
        obtain ⟨b', o', hbo, cy0⟩ := HC.out (k - 1) y hy
        cases hbo
        have cy := (HB4.out.cell (block_lt_of_cell cy0)).trans cy0
        have HYD : Hid (l.getD (k - 1) 0 = y) := Lib.hid (by simp [hy])
        obtain ⟨m, hm⟩ : ∃ m, k = m + 1 := ⟨k - 1, by omega⟩
        subst hm
        rw [show m + 1 - 1 = m from rfl] at cy HYD
        clear hy cy0 hk2 hk3
        have hk2 : ((m + 1 : Nat) : Int) - 1 = (m : Int) := by omega
        have hm0 : (m : Int) < (n : Int) := by omega
        have HK1 := Lib.hid hk1
        clear hk1
        by_cases hyx : y < x
        · have HST : Hid (∀ j, j < m + 1 + 1 → okAt ⟨p, s, sl, f⟩ seg l j = true) := Lib.hid (fun j hj => by
            by_cases h : j < m + 1
            · exact HAL.out j h
            · obtain rfl : j = m + 1 := by omega
              unfold okAt
              rw [HXD.out, hi, decide_eq_false HXS.out, show m + 1 - 1 = m from rfl, HYD.out, decide_eq_true hyx]
              simp)
          have gy : decide (x ≤ y) = false := decide_eq_false (by omega)
          clear hyx hi
          go_wp2_with fail
          go_roundg (n - (m + 1 + 1))
          case measure => omega
          case rel => exact ⟨m + 1 + 1, by omega, by omega, by go_num, HST.out, HB3.out⟩
        · have HNO : Hid (freeOk ⟨p, s, sl, f⟩ seg l = false) := Lib.hid (freeOk_no HLK.out (by unfold okAt; rw [HXD.out, show m + 1 - 1 = m from rfl, HYD.out, decide_eq_false hyx]; simp))
          have gy : decide (x ≤ y) = true := decide_eq_true (by omega)
          clear hyx hi
          go_wp2_with fail
          go_ret
          exact ⟨ret_boolJ HNO.out.symm, HB4.out⟩
    · obtain rfl : k = n := by omega
      have HYES : Hid (freeOk ⟨p, s, sl, f⟩ seg l = true) := Lib.hid (freeOk_all fun i hi => HAL.out i (by have := HN.out; omega))
      have gk : decide ((k : Int) < (k : Int)) = false := decide_eq_false (by omega)
      go_wp2_with fail
      go_ret
      exact ⟨ret_boolJ HYES.out.symm, HB0.out⟩

end Go.Proofs.YthlnmdihdcfphaaGreatDoor
