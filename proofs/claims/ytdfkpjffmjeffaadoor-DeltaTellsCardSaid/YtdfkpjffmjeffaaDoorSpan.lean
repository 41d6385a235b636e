/- Where two pages differ: package delta's span. -/
import Derived.Test.YtdfkpjffmjeffaaDoorFit
import Derived.BigQuiet
import Derived.Deep.QuietTactic
namespace Go.Proofs.YtdfkpjffmjeffaaDoor
set_option linter.unusedSimpArgs false
set_option linter.unusedVariables false
open Go.RowKit

theorem u8_cell {l : List Int} {k : Nat} {x : Int} (h : l[k]? = some x) : (u8s l)[k]? = some (.int .u8 x) := by rw [List.getElem?_map, h]; rfl
set_option maxRecDepth 100000 in
theorem span_any (a b : List Int) (ha : Pg a) (hb : Pg b) (o e : Nat) (hs : Span a b o e) (w : World) : Calls Tryd.prog 13 #[.agg (u8s a).toArray, .agg (u8s b).toArray] w fun r w' => r = .returned (.tuple #[.int .i64 o, .int .i64 e]) ∧ Below w.heap.size w w' := by
  have HA := Lib.hid ha
  have HB := Lib.hid hb
  have HS := Lib.hid hs
  have h1 := hs.le
  have h2 := hs.up
  clear ha hb hs
  go_enter Tryd.func13, Tryd.ntmps13
  go_upto_region 0 with fail
  refine wp_region_lit ?_
  refine box_g rfl rfl ?_
  intro w1 hA hb hl
  try simp only [Act.put, List.setIfInBounds_toArray, List.set_cons_succ, List.set_cons_zero]
  refine box_g rfl rfl ?_
  intro w2 hA2 hb2 hl2
  try simp only [Act.put, List.setIfInBounds_toArray, List.set_cons_succ, List.set_cons_zero]
  have F1 : Hid (Blk w2 w.heap.size (u8s a)) := Lib.hid (Blk.below hA hb2 hl)
  have F2 : Hid (Blk w2 w1.heap.size (u8s b)) := Lib.hid hA2
  have F3 : Hid (Below w.heap.size w w2) := Lib.hid (stay hb hb2)
  have HG : Hid (w.heap.size ≤ w2.heap.size) := Lib.hid F3.out.size
  clear hA hb hl hA2 hb2 hl2
  generalize w1.heap.size = j at *
  clear w1
  refine takeL (.int .i64 0) rfl (by go_simp) ?_
  try simp only [Act.put, List.setIfInBounds_toArray, List.set_cons_succ, List.set_cons_zero]
  refine takeL (.int .i64 0) rfl (by go_simp) ?_
  try simp only [Act.put, List.setIfInBounds_toArray, List.set_cons_succ, List.set_cons_zero]
  refine wpList_nil ?_
  go_wp2_with fail
  go_loopg [4] 32 (fun q i wr => ∃ k : Nat, 32 - k ≤ q ∧ k ≤ o ∧ i = .int .i64 k ∧ Below w2.heap.size w2 wr)
  case atStart => exact ⟨0, by omega, by omega, rfl, Below.refl _ _⟩
  case round =>
    obtain ⟨k, hq, hk, rfl, hbr⟩ := hrel
    have HR := Lib.hid hbr
    have G1 := F1.out.below hbr F1.out.lt
    have G2 := F2.out.below hbr F2.out.lt
    clear hbr
    by_cases h4 : k < o
    · obtain ⟨x, y, ex, ey, hp, -⟩ := HS.out.at HA.out HB.out (i := k) (by omega)
      obtain rfl := hp h4
      have hi : (k : Int) < 32 := by omega
      have hg : decide ((k : Int) < 32) = true := decide_eq_true hi
      have c1 := G1.cell (u8_cell ex)
      have c2 := G2.cell (u8_cell ey)
      have he : (x == x) = true := by simp
      clear G1 G2 hp ex ey
      go_wp2_with fail
      go_quiet (fail)
      go_wp2_with fail
      go_roundg (32 - (k + 1))
      case measure => omega
      case rel => exact ⟨k + 1, by omega, by omega, by go_num, drewN_below HR.out _⟩
    · obtain rfl : k = o := by omega
      clear h4
      have HT : Hid (Below w2.heap.size w2 wr) := HR
      by_cases h5 : k < e
      · obtain ⟨x, y, ex, ey, -, -, hr, -⟩ := HS.out.at HA.out HB.out (i := k) (by omega)
        have hi : (k : Int) < 32 := by omega
        have hg : decide ((k : Int) < 32) = true := decide_eq_true hi
        have c1 := G1.cell (u8_cell ex)
        have c2 := G2.cell (u8_cell ey)
        have he : (x == y) = false := by simpa using hr h5 rfl
        clear G1 G2 hr ex ey
        go_wp2_with fail
        go_quiet (fail)
        go_wp2_with fail
        go_loopg [5] 32 (fun q i wq => ∃ m : Nat, m - e ≤ q ∧ e ≤ m ∧ m ≤ 32 ∧ i = .int .i64 m ∧ Below w2.heap.size w2 wq)
        case atStart => exact ⟨32, by omega, h2, by omega, rfl, drewN_below HR.out _⟩
        case round =>
          clear hi hg c1 c2 he
          obtain ⟨m, hq, hm1, hm2, rfl, hbr⟩ := hrel
          have HQ := Lib.hid hbr
          have G1 := F1.out.below hbr F1.out.lt
          have G2 := F2.out.below hbr F2.out.lt
          obtain ⟨m, rfl⟩ : ∃ m', m = m' + 1 := ⟨m - 1, by omega⟩
          have hi : (k : Int) < (m : Int) + 1 := by omega
          have hg : decide ((k : Int) < (m : Int) + 1) = true := decide_eq_true hi
          have hw : IntKind.i64.wrap (m : Int) = m := wrap64 (by omega) (by omega)
          have hj : (m : Int) < 32 := by omega
          obtain ⟨x, y, ex, ey, -, hp, -, hr⟩ := HS.out.at HA.out HB.out (i := m) (by omega)
          have c1 := G1.cell (u8_cell ex)
          have c2 := G2.cell (u8_cell ey)
          clear hbr G1 G2 ex ey
          by_cases h6 : e < m + 1
          · obtain rfl := hp (by omega)
            have he : (x == x) = true := by simp
            have H6 := Lib.hid h6
            clear hp hr h6
            go_wp2_with fail
            go_quiet (fail)
            go_wp2_with fail
            have h6 := H6.out
            go_roundg (m - e)
            case measure => omega
            case rel => exact ⟨m, by omega, by omega, by omega, by go_num, drewN_below HQ.out _⟩
          · have h7 : e = m + 1 := by omega
            have he : (x == y) = false := by simpa using hr h5 (by omega)
            clear hp hr h6
            subst h7
            go_wp2_with fail
            go_quiet (fail)
            go_wp2_with fail
            go_ret2
            exact ⟨rfl, F3.out.trans ((drewN_below HQ.out _).mono HG.out)⟩
      · have h6 := HS.out.non (by omega)
        have hi : ¬ (k : Int) < 32 := by omega
        have hg : decide ((k : Int) < 32) = false := decide_eq_false hi
        clear G1 G2 h6
        go_wp2_with fail
        go_quiet (fail)
        go_wp2_with fail
        obtain rfl : k = 32 := by omega
        go_loopg [5] 1 (fun q i wq => i = .int .i64 32 ∧ Below w2.heap.size w2 wq)
        case atStart => exact ⟨rfl, drewN_below HR.out _⟩
        case round =>
          clear hi hg
          obtain ⟨rfl, hbr⟩ := hrel
          have HQ := Lib.hid hbr
          obtain rfl : e = 32 := by omega
          clear hbr
          go_wp2_with fail
          go_quiet (fail)
          go_wp2_with fail
          go_ret2
          exact ⟨rfl, F3.out.trans ((drewN_below HQ.out _).mono HG.out)⟩
end Go.Proofs.YtdfkpjffmjeffaaDoor
