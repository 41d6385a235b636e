/- The reference's Parts and Size, once its Good is known. -/
import Derived.Test.YtbhaifdhmfmeoaaKown
namespace Go.Proofs.Ytbhaifdhmfmeoaa
set_option linter.unusedSimpArgs false
set_option linter.unusedVariables false
open Go.RowKit

/-- What the reference's Good says. -/
def GoodC (sv : Value) (l : List (It × Value)) (L : List It) : Prop := ∀ w, ItemsAt w sv l → Calls Try.prog 35 #[sv] w fun e w' => e = .returned (.bool (mayBe L)) ∧ Below w.heap.size w w'
set_option maxRecDepth 100000 in
theorem rparts_of (l : List (It × Value)) (L : List It) (hL : l.map (·.1) = L) (sv : Value) (HG : GoodC sv l L) (w : World) (h : ItemsAt w sv l) : Calls Try.prog 19 #[sv] w fun e w' => e = .returned (.int .i64 (partsN L)) ∧ Below w.heap.size w w' := by
  obtain ⟨a, c, hs⟩ := items_one h
  subst hs
  have HH := Lib.hid h
  have HGG := Lib.hid HG
  have hlen : L.length = l.length := by rw [← hL, List.length_map]
  clear h HG hL
  cases hm : mayBe L
  · have hp : partsN L = 0 := by unfold partsN; rw [hm]; rfl
    rw [hp]
    have HGW := HGG.out w HH.out
    rw [hm] at HGW
    have HGX := Lib.hid HGW
    clear HGW hm hp
    go_enter Try.func19, Try.ntmps19
    go_wp2_with fail
    refine HGX.out.mono ?_
    rintro e w2 ⟨rfl, hb⟩
    have HB := Lib.hid hb
    clear hb
    go_wp2_with fail
    go_ret
    exact ⟨rfl, HB.out⟩
  · have h64 := (mayBe_iff.1 hm).2.1
    obtain ⟨N, hN⟩ : ∃ N, l.length = N := ⟨_, rfl⟩
    rw [hlen, hN] at h64
    have hp : partsN L = (parts N : Int) := by unfold partsN; rw [hm, if_pos rfl, hlen, hN]
    rw [hp]
    have HGW := HGG.out w HH.out
    rw [hm] at HGW
    rw [hN] at HGW ⊢
    have HGX := Lib.hid HGW
    obtain ⟨P, hP⟩ : ∃ P, parts N = P := ⟨_, rfl⟩
    have gp2 : ((N : Int) + 23) / 24 = (P : Int) := by rw [← hP]; unfold parts; omega
    have hP3 : P ≤ 4 := by rw [← hP]; unfold parts; omega
    have gp3 : IntKind.i64.wrap (((N : Int) + 23).tdiv 24) = (P : Int) := by rw [Int.tdiv_eq_ediv_of_nonneg (by omega), gp2]; exact wrap64 (by omega) (by omega)
    have gp4 : IntKind.i64.wrap ((N : Int) + 23) = (N : Int) + 23 := wrap64 (by omega) (by omega)
    rw [hP]
    clear HGW hm hp hP hN hlen
    go_enter Try.func19, Try.ntmps19
    go_wp2_with fail
    refine HGX.out.mono ?_
    rintro e w2 ⟨rfl, hb⟩
    have HB := Lib.hid hb
    clear hb
    go_wp2_with fail
    go_ret
    exact ⟨rfl, HB.out⟩

set_option maxRecDepth 100000 in
theorem rsize_of (l : List (It × Value)) (L : List It) (hL : l.map (·.1) = L) (hlen : l.length ≤ 100000) (sv : Value) (HG : GoodC sv l L) (w : World) (h : ItemsAt w sv l) : Calls Try.prog 17 #[sv] w fun e w' => e = .returned (.int .i64 (sizeOf' L)) ∧ Below w.heap.size w w' := by
  have HPT := Lib.hid (rparts_of l L hL sv HG w h)
  obtain ⟨a, c, hs⟩ := items_one h
  subst hs
  have HH := Lib.hid h
  have hl : L.length = l.length := by rw [← hL, List.length_map]
  obtain ⟨N, hN⟩ : ∃ N, l.length = N := ⟨_, rfl⟩
  rw [hN] at hlen
  cases hm : mayBe L
  · have hp : partsN L = 0 := by unfold partsN; rw [hm]; rfl
    have hz : sizeOf' L = 0 := by unfold sizeOf'; rw [hm]; rfl
    rw [hp] at HPT
    rw [hz]
    rw [hN] at HPT ⊢
    clear hp hz hm HG h hL hl hN
    go_enter Try.func17, Try.ntmps17
    go_wp2_with fail
    refine HPT.out.mono ?_
    rintro e w2 ⟨rfl, hb⟩
    have HB := Lib.hid hb
    clear hb
    go_wp2_with fail
    go_loopg [3, 4] N (fun q p i wr => p = .int .i64 0 ∧ i = .int .i64 0 ∧ Below w.heap.size w wr)
    case atStart => exact ⟨rfl, rfl, HB.out⟩
    case round =>
      obtain ⟨rfl, rfl, hb⟩ := hrel
      have HB2 := Lib.hid hb
      clear hb HB
      go_wp2_with fail
      all_goals (go_ret; exact ⟨rfl, HB2.out⟩)
  · have h64 := (mayBe_iff.1 hm).2.1
    rw [hl, hN] at h64
    have hp : partsN L = (parts N : Int) := by unfold partsN; rw [hm, if_pos rfl, hl, hN]
    have hz : sizeOf' L = ((parts N + blocks (marks L) : Nat) : Int) := by unfold sizeOf'; rw [hm, if_pos rfl, hl, hN]
    obtain ⟨P, hP⟩ : ∃ P, parts N = P := ⟨_, rfl⟩
    have hP3 : 1 ≤ P ∧ P ≤ 4 := by
      have := (mayBe_iff.1 hm).1
      rw [← hP]
      unfold parts
      omega
    rw [hp, hP] at HPT
    rw [hz, hP]
    rw [hN] at HPT h ⊢
    have HH := Lib.hid h
    have HN := Lib.hid hN
    have HLL := Lib.hid hL
    have HLN : Hid (L.length = N) := Lib.hid (by rw [hl, hN])
    have HOK := Lib.hid (mayBe_iff.1 hm).2.2.1
    clear hp hz hm HG h hL hl hN hP
    go_enter Try.func17, Try.ntmps17
    go_wp2_with fail
    refine HPT.out.mono ?_
    rintro e w2 ⟨rfl, hb⟩
    have HB := Lib.hid hb
    clear hb
    go_wp2_with fail
    go_loopg [3, 4] N (fun q p i wr => ∃ k : Nat, N - k ≤ q ∧ k ≤ N ∧ i = .int .i64 k ∧ p = .int .i64 ((P + blocks (marks (L.take k)) : Nat) : Int) ∧ Below w.heap.size w wr)
    case atStart => exact ⟨0, by omega, by omega, rfl, rfl, HB.out⟩
    case round =>
      obtain ⟨k, hq, hk, rfl, rfl, hb⟩ := hrel
      have HB2 := Lib.hid hb
      clear hb HB
      have hbk := blocks_le (marks (L.take k))
      rw [List.length_map, List.length_take] at hbk
      obtain ⟨B, hB⟩ : ∃ B, blocks (marks (L.take k)) = B := ⟨_, rfl⟩
      rw [hB] at hbk ⊢
      have gB : decide (0 < ((P + B : Nat) : Int)) = true := decide_eq_true (by omega)
      by_cases hkN : k < N
      · have gk : decide ((k : Int) < (N : Int)) = true := decide_eq_true (by omega)
        have gki : (k : Int) < (N : Int) := by omega
        obtain ⟨x, hx⟩ : ∃ x, l[k]? = some x := ⟨_, List.getElem?_eq_getElem (by rw [HN.out]; exact hkN)⟩
        obtain ⟨g, o, cap, heq, hcap, hg, hat⟩ := (HH.out.below HB2.out).has (by rw [HN.out]; omega)
        obtain ⟨hxw, hxb, hxa⟩ := hat k x hx
        have qa : a = some ⟨g, o, none⟩ := by injection heq
        subst qa
        have hLk : L[k]? = some x.1 := by rw [← HLL.out, List.getElem?_map, hx]; rfl
        have ck : wr.cell? ⟨g, o + k * 47, none⟩ = some (.int .i64 x.1.mark.1) := by
          have := hxa 0 (by rw [x.1.arr_size hxw]; decide)
          exact this
        have hnext : blocks (marks (L.take (k + 1))) = B + (if hasBlock x.1.mark.1 then 1 else 0) := by
          rw [List.take_add_one, hLk, ← hB]
          simp only [marks, List.map_append, blocks_append, Option.toList_some, List.map_cons, List.map_nil, blocks]
          cases hasBlock x.1.mark.1 <;> simp
        have hk1 : 1 ≤ x.1.mark.1 := by
          have := ok_mark (HOK.out x.1 (List.mem_of_getElem? hLk))
          unfold okMark kindIds at this
          rw [Bool.and_eq_true, decide_eq_true_eq, decide_eq_true_eq] at this
          obtain ⟨h1, h2⟩ := this
          split at h2
          · omega
          · split at h2
            · omega
            · omega
        have HNX := Lib.hid hnext
        obtain ⟨mk, hmk⟩ : ∃ m, x.1.mark.1 = m := ⟨_, rfl⟩
        rw [hmk] at ck hk1
        have HMK := Lib.hid hmk
        have gw : IntKind.i64.wrap (((P + B : Nat) : Int) + 1) = ((P + B : Nat) : Int) + 1 := wrap64 (by omega) (by omega)
        clear hat hxw hxb hxa heq hcap hx hLk hnext hmk
        by_cases h3 : mk ≤ 3
        · have g3 : decide (mk ≤ 3) = true := decide_eq_true h3
          have HH1 : Hid (hasBlock x.1.mark.1 = true) := Lib.hid (by rw [HMK.out]; unfold hasBlock; simp; omega)
          go_wp2_with fail
          go_roundg (N - (k + 1))
          case measure => omega
          case rel => exact ⟨k + 1, by omega, by omega, by go_num, by rw [HNX.out, HH1.out]; go_num, HB2.out⟩
        · have g3 : decide (mk ≤ 3) = false := decide_eq_false h3
          have HH1 : Hid (hasBlock x.1.mark.1 = false) := Lib.hid (by rw [HMK.out]; unfold hasBlock; simp; omega)
          go_wp2_with fail
          go_roundg (N - (k + 1))
          case measure => omega
          case rel => exact ⟨k + 1, by omega, by omega, by go_num, by rw [HNX.out, HH1.out]; go_num, HB2.out⟩
      · obtain rfl : k = N := by omega
        have gk : decide ((k : Int) < (k : Int)) = false := decide_eq_false (by omega)
        have HBE : Hid (blocks (marks L) = B) := Lib.hid (by rw [← hB, List.take_of_length_le (by rw [HLN.out]; exact Nat.le_refl _)])
        go_wp2_with fail
        go_ret
        exact ⟨by rw [HBE.out]; rfl, HB2.out⟩

end Go.Proofs.Ytbhaifdhmfmeoaa
