/- Lists of ints compared; the statements' first calls. -/
import Derived.Test.YtlmehhjgagddoaaDoorJoin
namespace Go.Proofs.YtlmehhjgagddoaaDoor
set_option linter.unusedSimpArgs false
set_option linter.unusedVariables false
open Go.RowKit

theorem ints_any (l m : List Int) (hl : l.length ≤ 1000) (hm : m.length ≤ 1000) (sv tv : Value) (w : World) (h : IntsAt w sv l) (k : IntsAt w tv m) : Calls Tryd.prog 9 #[sv, tv] w fun e w' => e = .returned (.bool (decide (l = m))) ∧ Below w.heap.size w w' := by
  obtain ⟨a, cap, rfl, hc⟩ := h
  obtain ⟨a', cap', rfl, hc'⟩ := k
  have HC := Lib.hid hc
  have HC' := Lib.hid hc'
  clear hc hc'
  by_cases hlen : l.length = m.length
  · obtain ⟨n, hn⟩ : ∃ n, m.length = n := ⟨_, rfl⟩
    have hln := hlen.trans hn
    rw [hn] at hm
    rw [hln, hn]
    have HN := Lib.hid hn
    have HLN := Lib.hid hln
    clear hln hl hlen hn
    go_enter Tryd.func9, Tryd.ntmps9
    go_wp2_with fail
    go_loopg [5] n (fun q i wr => ∃ k : Nat, n - k ≤ q ∧ k ≤ n ∧ i = .int .i64 k ∧ (∀ j, j < k → l[j]? = m[j]?) ∧ Below w.heap.size w wr)
    case atStart => exact ⟨0, by omega, by omega, rfl, fun j hj => by omega, Below.refl _ _⟩
    case round =>
      obtain ⟨k, hg, hk, rfl, heq, hbel⟩ := hrel
      have HE := Lib.hid heq
      have HB := Lib.hid hbel
      clear heq hbel
      by_cases hlt : k < n
      · have h1 := HLN.out
        have h2 := HN.out
        obtain ⟨x, hx⟩ : ∃ x, l[k]? = some x := ⟨_, List.getElem?_eq_getElem (by omega)⟩
        obtain ⟨y, hy⟩ : ∃ y, m[k]? = some y := ⟨_, List.getElem?_eq_getElem (by omega)⟩
        obtain ⟨b, o, rfl, c1⟩ := HC.out k x hx
        obtain ⟨b', o', rfl, c2⟩ := HC'.out k y hy
        have d1 := (HB.out.cell (block_lt_of_cell c1)).trans c1
        have d2 := (HB.out.cell (block_lt_of_cell c2)).trans c2
        have HX := Lib.hid hx
        have HY := Lib.hid hy
        clear hx hy c1 c2 h1 h2
        have hk1 : (k : Int) < (n : Int) := by omega
        have hg1 : decide ((k : Int) < (n : Int)) = true := decide_eq_true hk1
        by_cases hxy : x = y
        · subst hxy
          have e1 : (x != x) = false := by simp
          go_wp2_with fail
          go_quiet (fail)
          go_wp2_with fail
          go_roundg (n - (k + 1))
          case measure => omega
          case rel => exact ⟨k + 1, by omega, by omega, by go_num, fun j hj => by
            by_cases hj2 : j < k
            · exact HE.out j hj2
            · obtain rfl : j = k := by omega
              rw [HX.out, HY.out], drewN_below HB.out _⟩
        · have e1 : (x != y) = true := by simpa using hxy
          have HXY := Lib.hid hxy
          clear hxy
          go_wp2_with fail
          go_quiet (fail)
          go_wp2_with fail
          go_ret
          exact ⟨ret_bool (by
            symm
            refine decide_eq_false fun e => HXY.out ?_
            have := HX.out
            rw [e, HY.out] at this
            exact (Option.some.inj this).symm), drewN_below HB.out _⟩
      · obtain rfl : k = n := by omega
        have hk1 : ¬ (k : Int) < (k : Int) := by omega
        have hg1 : decide ((k : Int) < (k : Int)) = false := decide_eq_false hk1
        go_wp2_with fail
        go_ret
        exact ⟨ret_bool (by
          symm
          refine decide_eq_true (List.ext_getElem? fun j => ?_)
          rcases Nat.lt_or_ge j k with h1 | h1
          · exact HE.out j h1
          · have h2 := HLN.out
            have h3 := HN.out
            rw [List.getElem?_eq_none (by omega), List.getElem?_eq_none (by omega)]), HB.out⟩
  · have HL : Hid (l ≠ m) := Lib.hid fun e => hlen (by rw [e])
    have e1 : ((l.length : Int) != (m.length : Int)) = true := by simp; omega
    have hne : ¬ (l.length : Int) = (m.length : Int) := by omega
    clear hlen
    go_enter Tryd.func9, Tryd.ntmps9
    go_wp2_with fail
    go_ret
    exact ⟨ret_bool (by symm; exact decide_eq_false HL.out), Below.refl _ _⟩

def gS : Gm := ⟨16, 8, 24, 4⟩
def lS : List Int := (zeros 16).set 9 30
theorem gS_ok : gS.Ok := by decide
theorem gS_maps : gS.maps = (2 : Nat) := by decide
theorem lS_small : ∀ x ∈ lS, Small x := by
  intro x hx
  have : x ∈ [(0 : Int), 30] := by
    have h := List.mem_or_eq_of_mem_set hx
    rcases h with h | h
    · rw [List.eq_of_mem_replicate h]; simp
    · rw [h]; simp
  rcases List.mem_cons.1 this with rfl | h
  · exact small0
  · rw [List.mem_singleton.1 h]; exact ⟨by decide, by decide⟩
theorem lS_heads : Heads gS lS := ⟨gS_ok, by decide, by decide⟩
set_option maxRecDepth 100000 in
theorem wakes_any (w : World) : Calls Tryd.prog 5 #[] w fun e w' => e = .returned (.bool true) ∧ Below w.heap.size w w' := by
  have MK : ∀ w, (Instr.makeSlice 24 (.int .i64 16) (.int .i64 16)).run Tryd.prog w = .ok (.slice (some ⟨w.heap.size, 0, none⟩) 16 16) (w.alloc (.cells (i64s (zeros 16)).toArray 3)) := fun w => make24 16 (by omega) w
  have HS := Lib.hid small_any
  have HC := Lib.hid fun sv w hs => cut_yes gS lS lS_heads lS_small 2 gS_maps sv w hs
  have HJ := Lib.hid fun r w hs => join_yes gS lS lS_heads lS_small 2 gS_maps r w hs
  have HI := Lib.hid fun sv tv w h k => ints_any lS lS (by decide) (by decide) sv tv w h k
  have HO9 := Lib.hid fun w => of_nat 9 (by omega) w
  have HO64 := Lib.hid fun w => of_out 64 (by omega) w
  have K0 : Hid (Blk (w.alloc (.cells (i64s (zeros 16)).toArray 3)) w.heap.size (i64s (zeros 16))) := Lib.hid (by have := Blk.new w (i64s (zeros 16)).toArray 3; simpa using this)
  have B0 := Lib.hid ((Below.refl w.heap.size w).alloc (Nat.le_refl _) (.cells (i64s (zeros 16)).toArray 3))
  have c0 : (w.alloc (.cells (i64s (zeros 16)).toArray 3)).cell? ⟨w.heap.size, 9, none⟩ = some (.int .i64 0) := K0.out.cell rfl
  have f0 := K0.out.frozen 9
  go_enter Tryd.func5, Tryd.ntmps5
  go_wp2_with fail
  have K1 : Hid (Blk (w.alloc (.cells ((i64s (zeros 16)).set 9 (.int .i64 30)).toArray 3)) w.heap.size (i64s lS)) := Lib.hid (Blk.new w ((i64s (zeros 16)).set 9 (.int .i64 30)).toArray 3)
  have B1 : Hid (Below w.heap.size w (w.alloc (.cells ((i64s (zeros 16)).set 9 (.int .i64 30)).toArray 3))) := Lib.hid ((Below.refl w.heap.size w).alloc (Nat.le_refl _) _)
  clear K0 B0 c0 f0 MK
  refine (HS.out _).mono ?_
  rintro e w1 ⟨rfl, hb⟩
  have K2 := Lib.hid (K1.out.below hb K1.out.lt)
  have B2 := Lib.hid (stay B1.out hb)
  clear hb K1 B1
  go_wp2_with fail
  refine (HC.out _ _ (IntsAt.of_blk (cap := 16) K2.out)).mono ?_
  rintro e w2 ⟨r, rfl, hk, -, hb⟩
  have K3 := Lib.hid (K2.out.below hb K2.out.lt)
  have B3 := Lib.hid (stay B2.out hb)
  have R3 := Lib.hid hk
  clear hb hk K2 B2
  go_wp2_with fail
  refine (HS.out _).mono ?_
  rintro e w3 ⟨rfl, hb⟩
  have K4 := Lib.hid (K3.out.below hb K3.out.lt)
  have B4 := Lib.hid (stay B3.out hb)
  have R4 := Lib.hid (R3.out.below hb R3.out.lt)
  clear hb K3 B3 R3
  go_wp2_with fail
  refine (HJ.out r _ R4.out).mono ?_
  rintro e w4 ⟨jv, rfl, hj, hb⟩
  have K5 := Lib.hid (K4.out.below hb K4.out.lt)
  have B5 := Lib.hid (stay B4.out hb)
  have R5 := Lib.hid (R4.out.below hb R4.out.lt)
  have J5 := Lib.hid hj
  clear hb hj K4 B4 R4
  go_wp2_with fail
  refine (HO9.out _).mono ?_
  rintro e w5 ⟨rfl, rfl⟩
  go_wp2_with fail
  refine (HO64.out _).mono ?_
  rintro e w5 ⟨rfl, rfl⟩
  have d0 : w4.cell? ⟨r, 45, none⟩ = some (.int .i64 3) := R5.out.cell rfl
  have d1 : w4.cell? ⟨r, 46, none⟩ = some (.int .i64 1) := R5.out.cell rfl
  have d2 : w4.cell? ⟨r, 83, none⟩ = some (.int .i64 30) := R5.out.cell rfl
  go_wp2_with fail
  refine (HI.out _ _ _ J5.out (IntsAt.of_blk (cap := 16) K5.out)).mono ?_
  rintro e w6 ⟨rfl, hb⟩
  have B6 := Lib.hid (stay B5.out hb)
  clear hb
  go_wp2_with fail
  go_ret
  exact ⟨ret_bool (by simp), B6.out⟩
end Go.Proofs.YtlmehhjgagddoaaDoor
