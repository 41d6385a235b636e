/- Package mappage's headsProblem, lay and Cut. -/
import Derived.Test.YtlmehhjgagddoaaDoorCore
namespace Go.Proofs.YtlmehhjgagddoaaDoor
set_option linter.unusedSimpArgs false
set_option linter.unusedVariables false
open Go.RowKit

theorem hp_geom (g : Gm) (h : ¬ g.Ok) (sv : Value) (w : World) : Calls Tryd.prog 13 #[g.v, sv] w fun e w' => ∃ T d t ts, e = .returned (.iface T d) ∧ Chain w' 1 (t :: ts) (.iface T d) ∧ Below w.heap.size w w' := by
  have H := Lib.hid fun w => good_no g h w
  have HN := Lib.hid fun s w => new_err s w
  clear h
  go_enter Tryd.func13, Tryd.ntmps13
  go_wp2_with fail
  refine (H.out _).mono ?_
  rintro e w1 ⟨rfl, hb⟩
  have HB := Lib.hid (box_call hb)
  clear hb
  go_wp2_with fail
  refine (HN.out _ _).mono ?_
  rintro e w2 ⟨T, d, t, ts, rfl, hc, hb⟩
  have HC := Lib.hid hc
  have HB2 := Lib.hid (HB.out.1.trans (hb.mono HB.out.1.size))
  clear hc hb
  go_wp2_with fail
  go_ret
  exact ⟨T, d, t, ts, rfl, HC.out, HB2.out⟩
theorem hp_len (g : Gm) (h : g.Ok) (n : Nat) (hn : (n : Int) ≠ g.p) (sv : Value) (hs : Len sv n) (w : World) : Calls Tryd.prog 13 #[g.v, sv] w fun e w' => ∃ T d t ts, e = .returned (.iface T d) ∧ Chain w' 1 (t :: ts) (.iface T d) ∧ Below w.heap.size w w' := by
  have H := Lib.hid fun w => good_yes g h w
  have HN := Lib.hid fun s w => new_err s w
  obtain ⟨sa, sc, rfl⟩ := hs
  have d0 : ((n : Int) != g.p) = true := by simpa using hn
  clear h hn
  go_enter Tryd.func13, Tryd.ntmps13
  go_wp2_with fail
  refine (H.out _).mono ?_
  rintro e w1 ⟨rfl, hb⟩
  have HB := Lib.hid (box_call hb)
  clear hb
  have c0 := HB.out.2.1.p
  go_wp2_with fail
  refine (HN.out _ _).mono ?_
  rintro e w2 ⟨T, d, t, ts, rfl, hc, hb⟩
  have HC := Lib.hid hc
  have HB2 := Lib.hid (HB.out.1.trans (hb.mono HB.out.1.size))
  clear hc hb
  go_wp2_with fail
  go_ret
  exact ⟨T, d, t, ts, rfl, HC.out, HB2.out⟩
theorem hp_heads (g : Gm) (h : g.Ok) (l : List Int) (hl : (l.length : Int) = g.p) (hsm : ∀ x ∈ l, Small x) (sv : Value) (w : World) (hs : IntsAt w sv l) : Calls Tryd.prog 13 #[g.v, sv] w fun e w' =>
    ((∀ x ∈ l, isHead x = true) ∧ e = .returned .nilIface ∧ Below w.heap.size w w') ∨ (¬ (∀ x ∈ l, isHead x = true) ∧ ∃ T d t ts, e = .returned (.iface T d) ∧ Chain w' 1 (t :: ts) (.iface T d) ∧ Below w.heap.size w w') := by
  have H := Lib.hid fun w => good_yes g h w
  have HN := Lib.hid fun s w => new_err s w
  have HP := h.1.2
  have HS := Lib.hid hsm
  obtain ⟨n, hn⟩ : ∃ n, l.length = n := ⟨_, rfl⟩
  have HI := Lib.hid hs
  obtain ⟨sa, sc, rfl, -⟩ := hs
  have d0 : ((n : Int) != g.p) = false := by rw [← hn, hl]; simp
  have hn64 : n ≤ 64 := by omega
  have HL := Lib.hid hn
  rw [hn] at HI ⊢
  clear h hl hn hsm HP
  go_enter Tryd.func13, Tryd.ntmps13
  go_wp2_with fail
  refine (H.out _).mono ?_
  rintro e w1 ⟨rfl, hb⟩
  have HB := Lib.hid (box_call hb)
  clear hb
  have c0 := HB.out.2.1.p
  go_wp2_with fail
  go_loopg [21] n (fun q i wr => ∃ k : Nat, n - k ≤ q ∧ k ≤ n ∧ i = .int .i64 k ∧ (∀ j x, j < k → l[j]? = some x → isHead x = true) ∧ Below w.heap.size w wr)
  case atStart => exact ⟨0, by omega, by omega, rfl, fun j x hj => by omega, HB.out.1⟩
  case round =>
    obtain ⟨k, hq, hk, rfl, hall, hb⟩ := hrel
    have HA := Lib.hid hall
    have HW := Lib.hid hb
    clear hall hb
    by_cases hlt : k < n
    · have hk1 : (k : Int) < (n : Int) := by omega
      obtain ⟨x, hx⟩ : ∃ x, l[k]? = some x := ⟨_, List.getElem?_eq_getElem (by have := HL.out; omega)⟩
      have HX := Lib.hid hx
      have HXS := Lib.hid (HS.out x (List.mem_of_getElem? hx))
      obtain ⟨a2, c2, e2, hc⟩ := HI.out
      injection e2 with e3 e4 e5
      subst e3 e5
      obtain ⟨b, o, rfl, c1⟩ := hc k x hx
      have d1 := (HW.out.cell (block_lt_of_cell c1)).trans c1
      clear hx hc c1 e4
      by_cases hh : isHead x = true
      · have HH := Lib.hid fun w => ishead_any x HXS.out w
        rw [hh] at HH
        go_wp2_with fail
        refine (HH.out _).mono ?_
        rintro e w2 ⟨rfl, hb⟩
        have HW2 := Lib.hid (stay HW.out hb)
        clear hb
        go_wp2_with fail
        go_roundg (n - (k + 1))
        case measure => omega
        case rel => exact ⟨k + 1, by omega, by omega, by go_num, fun j y hj hy => by
          by_cases hj2 : j < k
          · exact HA.out j y hj2 hy
          · obtain rfl : j = k := by omega
            rw [HX.out] at hy
            obtain rfl := Option.some.inj hy
            exact hh, HW2.out⟩
      · have HH := Lib.hid fun w => ishead_any x HXS.out w
        have hh2 : isHead x = false := by simpa using hh
        rw [hh2] at HH
        have HNO : Hid (¬ ∀ x ∈ l, isHead x = true) := Lib.hid fun h => hh (h x (List.mem_of_getElem? HX.out))
        have HT := Lib.hid fun w => itoa_any k (by omega) w
        have HWR := Lib.hid wrap_err
        clear hh
        go_wp2_with fail
        refine (HH.out _).mono ?_
        rintro e w2 ⟨rfl, hb⟩
        have HW2 := Lib.hid (stay HW.out hb)
        clear hb
        go_wp2_with fail
        refine (HN.out _ _).mono ?_
        rintro e w3 ⟨T, d, t, ts, rfl, hc, hb⟩
        have HC := Lib.hid hc
        have HW3 := Lib.hid (stay HW2.out hb)
        clear hc hb
        go_wp2_with fail
        refine (HT.out _).mono ?_
        rintro e w4 ⟨s, rfl, hs, rfl⟩
        go_wp2_with fail
        refine (HWR.out _ _ _ _ _ _ HC.out).mono ?_
        rintro e w5 ⟨T2, d2, t2, ts2, rfl, hc, hb⟩
        have HC2 := Lib.hid hc
        have HW5 := Lib.hid (stay HW3.out hb)
        clear hc hb
        go_wp2_with fail
        go_ret
        exact .inr ⟨HNO.out, T2, d2, t2, ts2, rfl, HC2.out, HW5.out⟩
    · obtain rfl : k = n := by omega
      have hk1 : ¬ (k : Int) < (k : Int) := by omega
      go_wp2_with fail
      go_ret
      exact .inl ⟨fun x hx => by
        obtain ⟨j, hj⟩ := List.getElem?_of_mem hx
        exact HA.out j x (by have := (List.getElem?_eq_some_iff.1 hj).1; have := HL.out; omega) hj, rfl, HW.out⟩
/-- The rows while the kinds and Ids are laid. -/
def F1 (k : Nat) (i : Nat) : Bk := if i < k then mk [] i else Bk.none
theorem mk_page (l : List Int) (i : Nat) : (mk l i).page.length = 32 ∧ (mk l i).heads.length = 8 := ⟨zeros_length 32, hds_length l i⟩
theorem F1_page (k i : Nat) : (F1 k i).page.length = 32 ∧ (F1 k i).heads.length = 8 := by
  unfold F1
  split
  · exact mk_page [] i
  · exact none_page i
/-- A kind is laid, then an Id. -/
def F1k (k : Nat) (i : Nat) : Bk := if i = k then ⟨3, 0, zeros 32, 0, [], 0, zeros 8⟩ else F1 k i
theorem F1k_page (k i : Nat) : (F1k k i).page.length = 32 ∧ (F1k k i).heads.length = 8 := by
  unfold F1k
  split
  · exact ⟨zeros_length 32, zeros_length 8⟩
  · exact F1_page k i
theorem F1_at (k : Nat) : F1 k k = Bk.none := by simp [F1]
theorem F1_set0 {n k : Nat} (hk : k < n) : (row (F1 k) n).set (k * 45) (.int .i64 3) = row (F1k k) n := by
  have := row_set (F1_page k) (F1k_page k) (n := n) (i := k) (j := 0) (.int .i64 3) hk (by decide) (fun m _ hm => by simp [F1k, hm]) (by rw [F1_at]; simp [F1k, Bk.none, Bk.cells])
  simpa using this
theorem hds_nil (i : Nat) : hds [] i = zeros 8 := by
  simp only [hds, List.getD_nil]
  rfl
theorem F1_set1 {n k : Nat} (hk : k < n) : (row (F1k k) n).set (k * 45 + 1) (.int .i64 k) = row (F1 (k + 1)) n := by
  refine row_set (F1k_page k) (F1_page (k + 1)) (n := n) (i := k) (j := 1) (.int .i64 k) hk (by decide) (fun m _ hm => ?_) ?_
  · have e : (m < k + 1) = (m < k) := by
      apply propext
      omega
    simp [F1k, F1, hm, e]
  · simp [F1k, F1, mk, hds_nil, Bk.cells]
theorem row_congr {F G : Nat → Bk} {n : Nat} (h : ∀ i, i < n → F i = G i) : row F n = row G n := by
  induction n with
  | zero => rfl
  | succ n ih => rw [row_succ, row_succ, ih fun i hi => h i (by omega), h n (by omega)]
theorem F1_zero (n : Nat) : row (fun _ => Bk.none) n = row (F1 0) n := row_congr fun i _ => by simp [F1]
theorem F1_all (n : Nat) : row (F1 n) n = row (mk []) n := row_congr fun i hi => by simp [F1, hi]
/-- A head is laid. -/
theorem mk_set {l : List Int} {n p : Nat} {x : Int} (hp : p < n * 8) (hx : l[p]? = some x) : (row (mk (l.take p)) n).set (p / 8 * 45 + (37 + p % 8)) (.int .i64 x) = row (mk (l.take (p + 1))) n := by
  have hpl := (List.getElem?_eq_some_iff.1 hx).1
  have ht : ∀ q, q ≠ p → (l.take (p + 1)).getD q 0 = (l.take p).getD q 0 := fun q hq => by
    simp only [List.getD_eq_getElem?_getD, List.getElem?_take]
    by_cases h : q < p
    · rw [if_pos h, if_pos (by omega)]
    · rw [if_neg h, if_neg (by omega)]
  have hp8 : (l.take (p + 1)).getD p 0 = x := by
    simp [List.getD_eq_getElem?_getD, List.getElem?_take, hx]
  have hh : ∀ i, i ≠ p / 8 → hds (l.take p) i = hds (l.take (p + 1)) i := fun i hi => by
    refine List.map_congr_left fun k hk => (ht _ ?_).symm
    have := List.mem_range.1 hk
    omega
  have h8 : (hds (l.take p) (p / 8)).set (p % 8) x = hds (l.take (p + 1)) (p / 8) := by
    apply List.ext_getElem?
    intro k
    by_cases hk : k < 8
    · rw [hds_at _ _ _ hk]
      by_cases e : p % 8 = k
      · rw [e, List.getElem?_set_self (by rw [hds_length]; exact hk), ← e, show p / 8 * 8 + p % 8 = p by omega, hp8]
      · rw [List.getElem?_set_ne e, hds_at _ _ _ hk, ht _ (by omega)]
    · rw [List.getElem?_eq_none (by rw [List.length_set, hds_length]; omega), List.getElem?_eq_none (by rw [hds_length]; omega)]
  refine row_set (fun i => mk_page _ i) (fun i => mk_page _ i) (n := n) (i := p / 8) (j := 37 + p % 8) (.int .i64 x) (by omega) (by omega) (fun m _ hm => by simp only [mk, hh m hm]) ?_
  have hl : (u8s (zeros 32)).length = 32 := by simp [zeros]
  simp only [mk, Bk.cells, ← h8]
  rw [show 37 + p % 8 = (35 + p % 8) + 1 + 1 by omega, List.set_cons_succ, List.set_cons_succ, List.set_append_right _ _ (by omega), hl, show 35 + p % 8 - 32 = p % 8 + 1 + 1 + 1 by omega, List.set_cons_succ, List.set_cons_succ, List.set_cons_succ]
  simp [List.map_set]
theorem mk_head {l : List Int} {n p : Nat} (hp : p < n * 8) : (row (mk l) n)[p / 8 * 45 + (37 + p % 8)]? = some (.int .i64 (l.getD p 0)) := by
  rw [row_at (fun i => mk_page l i) (by omega) (by omega)]
  have hl : (u8s (zeros 32)).length = 32 := by simp [zeros]
  simp only [mk, Bk.cells]
  rw [show 37 + p % 8 = (35 + p % 8) + 1 + 1 by omega, List.getElem?_cons_succ, List.getElem?_cons_succ, List.getElem?_append_right (by omega), hl, show 35 + p % 8 - 32 = p % 8 + 1 + 1 + 1 by omega, List.getElem?_cons_succ, List.getElem?_cons_succ, List.getElem?_cons_succ, List.getElem?_map, hds_at _ _ _ (by omega), show p / 8 * 8 + p % 8 = p by omega]
  rfl
theorem mk_kind {l : List Int} {n i : Nat} (hi : i < n) : (row (mk l) n)[i * 45]? = some (.int .i64 3) := by
  have := row_at (fun i => mk_page l i) hi (j := 0) (by decide)
  simpa [mk, Bk.cells] using this
theorem mk_id {l : List Int} {n i : Nat} (hi : i < n) : (row (mk l) n)[i * 45 + 1]? = some (.int .i64 i) := by
  have := row_at (fun i => mk_page l i) hi (j := 1) (by decide)
  simpa [mk, Bk.cells] using this
theorem of_nat (m : Nat) (hm : m < 64) (w : World) : Calls Tryd.prog 6 #[.int .i64 m] w fun e w' => e = .returned (.tuple #[.int .i64 ((m / 8 : Nat) : Int), .int .i64 ((m % 8 : Nat) : Int)]) ∧ w = w' := by
  have := of_in (m : Int) (by omega) (by omega) w
  rwa [show ((m / 8 : Nat) : Int) = (m : Int) / 8 by omega, show ((m % 8 : Nat) : Int) = (m : Int) % 8 by omega]
theorem mk_cell {l : List Int} {n p : Nat} (hp : p < n * 8) : ∃ y, (row (mk l) n)[p / 8 * 45 + (37 + p % 8)]? = some (.int .i64 y) := ⟨_, mk_head hp⟩
theorem Gm.Ok.nat {g : Gm} (h : g.Ok) : ∃ n p : Nat, g.maps = n ∧ g.p = p ∧ 1 ≤ n ∧ n ≤ 8 ∧ 1 ≤ p ∧ p ≤ 64 ∧ p ≤ n * 8 ∧ (n - 1) * 8 < p := by
  obtain ⟨m1, m2, m3, m4⟩ := h.maps
  obtain ⟨⟨p1, p2⟩, -⟩ := h
  refine ⟨g.maps.toNat, g.p.toNat, by omega, by omega, by omega, by omega, by omega, by omega, by omega, by omega⟩
set_option maxRecDepth 100000 in
theorem lay_yes (g : Gm) (h : g.Ok) (n : Nat) (hn : g.maps = n) (l : List Int) (hl : (l.length : Int) = g.p) (sv : Value) (w : World) (hs : IntsAt w sv l) : Calls Tryd.prog 15 #[g.v, sv] w fun e w' =>
    ∃ r, e = .returned (.slice (some ⟨r, 0, none⟩) n n) ∧ Blk w' r (row (mk l) n) ∧ w.heap.size ≤ r ∧ Below w.heap.size w w' := by
  have HM := Lib.hid fun w => maps_yes g h w
  obtain ⟨n', p, e1, e2, n1, n8, p1, p64, p8, -⟩ := h.nat
  obtain rfl : n' = n := by omega
  rw [hn] at HM
  have hlp : l.length = p := by omega
  have HL := Lib.hid hlp
  have HI := Lib.hid hs
  obtain ⟨sa, sc, rfl, -⟩ := hs
  have MK := fun w => make28 n' (by omega) w
  rw [hlp] at HI ⊢
  clear h hn hl e1 e2 hlp
  go_enter Tryd.func15, Tryd.ntmps15
  go_wp2_with fail
  refine (HM.out _).mono ?_
  rintro e w1 ⟨rfl, hb⟩
  have HB := Lib.hid (box_call hb)
  clear hb
  go_wp2_with fail
  obtain ⟨r, hr⟩ : ∃ r, w1.heap.size = r := ⟨_, rfl⟩
  have HR : Hid (w.heap.size ≤ r) := Lib.hid (by have := HB.out.1.size; omega)
  have HK0 := Lib.hid (Blk.new w1 (row (fun _ => Bk.none) n').toArray 43)
  have HB0 := Lib.hid (HB.out.1.alloc HB.out.1.size (.cells (row (fun _ => Bk.none) n').toArray 43))
  rw [hr] at HK0 ⊢
  go_loopg [16] n' (fun q i wr => ∃ k : Nat, n' - k ≤ q ∧ k ≤ n' ∧ i = .int .i64 k ∧ Blk wr r (row (F1 k) n') ∧ Below w.heap.size w wr)
  case atStart => exact ⟨0, by omega, by omega, rfl, by rw [← F1_zero]; exact HK0.out, HB0.out⟩
  case round =>
    obtain ⟨k, hq, hk, rfl, hk1, hb⟩ := hrel
    have HK := Lib.hid hk1
    have HW := Lib.hid hb
    clear hk1 hb HK0 HB0 hr
    by_cases hlt : k < n'
    · have hk1 : (k : Int) < (n' : Int) := by omega
      have c0 : wr.cell? ⟨r, k * 45, none⟩ = some (.int .i64 0) := HK.out.cell (by
        have := row_at (F1_page k) hlt (j := 0) (by decide)
        simpa [F1, Bk.none, Bk.cells] using this)
      have c1 : wr.cell? ⟨r, k * 45 + 1, none⟩ = some (.int .i64 0) := HK.out.cell (by
        have := row_at (F1_page k) hlt (j := 1) (by decide)
        simpa [F1, Bk.none, Bk.cells] using this)
      have f0 := HK.out.frozen (k * 45)
      have f1 := HK.out.frozen (k * 45 + 1)
      go_wp2_with fail
      go_roundg (n' - (k + 1))
      case measure => omega
      case rel =>
        have hset := (HK.out.set (k * 45) (.int .i64 3)).set (k * 45 + 1) (.int .i64 k)
        rw [F1_set0 hlt, F1_set1 hlt] at hset
        exact ⟨k + 1, by omega, by omega, by go_num, hset, (HW.out.setCell HR.out _).setCell HR.out _⟩
    · obtain rfl : n' = k := by omega
      have hk1 : ¬ (n' : Int) < (n' : Int) := by omega
      have HK2 := Lib.hid (show Blk wr r (row (mk (l.take 0)) n') by have := HK.out; rw [F1_all] at this; simpa using this)
      clear HK
      go_wp2_with fail
      go_loopg [31] p (fun q i wq => ∃ m : Nat, p - m ≤ q ∧ m ≤ p ∧ i = .int .i64 m ∧ Blk wq r (row (mk (l.take m)) n') ∧ Below w.heap.size w wq)
      case atStart => exact ⟨0, by omega, by omega, rfl, HK2.out, HW.out⟩
      case round =>
        clear HK2 HW hq hk hlt hk1
        obtain ⟨m, hq, hm, rfl, hk1, hb⟩ := hrel
        have HK := Lib.hid hk1
        have HW := Lib.hid hb
        clear hk1 hb
        by_cases hlt : m < p
        · have hk1 : (m : Int) < (p : Int) := by omega
          obtain ⟨x, hx⟩ : ∃ x, l[m]? = some x := ⟨_, List.getElem?_eq_getElem (by have := HL.out; omega)⟩
          have HX := Lib.hid hx
          obtain ⟨a2, c2, e2, hc⟩ := HI.out
          injection e2 with e3 e4 e5
          subst e3 e5
          obtain ⟨b, o, rfl, c1⟩ := hc m x hx
          have d1 := (HW.out.cell (block_lt_of_cell c1)).trans c1
          have HO := Lib.hid fun w => of_nat m (by omega) w
          have HS := Lib.hid (mk_set (n := n') (by omega) hx)
          have HC := mk_cell (l := l.take m) (n := n') (p := m) (by omega)
          clear hx hc c1 e4
          obtain ⟨u, hu⟩ : ∃ u, m / 8 = u := ⟨_, rfl⟩
          obtain ⟨v, hv⟩ : ∃ v, m % 8 = v := ⟨_, rfl⟩
          have hu1 : u < n' := by omega
          have hv1 : v < 8 := by omega
          rw [hu, hv] at HO HS HC
          obtain ⟨y, c0⟩ := HC
          have d2 : wr.cell? ⟨r, u * 45 + 37 + v, none⟩ = some (.int .i64 y) := by rw [Nat.add_assoc]; exact HK.out.cell c0
          have f2 : wr.frozen? ⟨r, u * 45 + 37 + v, none⟩ = false := HK.out.frozen _
          clear c0 hu hv
          have hu2 : (u : Int) < (n' : Int) := by omega
          have hv2 : (v : Int) < 8 := by omega
          go_wp2_with fail
          refine (HO.out _).mono ?_
          rintro e w3 ⟨rfl, rfl⟩
          go_wp2_with fail
          go_roundg (p - (m + 1))
          case measure => omega
          case rel =>
            have hset := HK.out.set (u * 45 + 37 + v) (.int .i64 x)
            rw [Nat.add_assoc, HS.out, ← Nat.add_assoc] at hset
            exact ⟨m + 1, by omega, by omega, by go_num, hset, HW.out.setCell HR.out _⟩
        · obtain rfl : p = m := by omega
          have hk1 : ¬ (p : Int) < (p : Int) := by omega
          go_wp2_with fail
          go_ret
          exact ⟨r, rfl, by have := HK.out; rwa [List.take_of_length_le (by have := HL.out; omega)] at this, HR.out, HW.out⟩

/-- Heads that may be, of a geometry that may be. -/
def Heads (g : Gm) (l : List Int) : Prop := g.Ok ∧ (l.length : Int) = g.p ∧ ∀ x ∈ l, isHead x = true
theorem hp_yes (g : Gm) (l : List Int) (h : Heads g l) (hsm : ∀ x ∈ l, Small x) (sv : Value) (w : World) (hs : IntsAt w sv l) : Calls Tryd.prog 13 #[g.v, sv] w fun e w' => e = .returned .nilIface ∧ Below w.heap.size w w' :=
  (hp_heads g h.1 l h.2.1 hsm sv w hs).mono fun e w' hh => by
    rcases hh with ⟨_, h1, h2⟩ | ⟨h1, _⟩
    · exact ⟨h1, h2⟩
    · exact absurd h.2.2 h1
theorem hp_no (g : Gm) (l : List Int) (h : ¬ Heads g l) (hsm : ∀ x ∈ l, Small x) (sv : Value) (w : World) (hs : IntsAt w sv l) : Calls Tryd.prog 13 #[g.v, sv] w fun e w' => ∃ T d t ts, e = .returned (.iface T d) ∧ Chain w' 1 (t :: ts) (.iface T d) ∧ Below w.heap.size w w' := by
  by_cases h1 : g.Ok
  · by_cases h2 : (l.length : Int) = g.p
    · refine (hp_heads g h1 l h2 hsm sv w hs).mono fun e w' hh => ?_
      rcases hh with ⟨h3, _⟩ | ⟨_, h3⟩
      · exact absurd ⟨h1, h2, h3⟩ h
      · exact h3
    · exact hp_len g h1 l.length h2 sv hs.len w
  · exact hp_geom g h1 sv w
theorem cut_yes (g : Gm) (l : List Int) (h : Heads g l) (hsm : ∀ x ∈ l, Small x) (n : Nat) (hn : g.maps = n) (sv : Value) (w : World) (hs : IntsAt w sv l) : Calls Tryd.prog 7 #[g.v, sv] w fun e w' =>
    ∃ r, e = .returned (.tuple #[.slice (some ⟨r, 0, none⟩) n n, .int .i64 0]) ∧ Blk w' r (row (mk l) n) ∧ w.heap.size ≤ r ∧ Below w.heap.size w w' := by
  have HP := Lib.hid fun w hs => hp_yes g l h hsm sv w hs
  have HL := Lib.hid fun w hs => lay_yes g h.1 n hn l h.2.1 sv w hs
  have HI := Lib.hid hs
  obtain ⟨sa, sc, rfl, -⟩ := hs
  generalize l.length = z at *
  have HI0 := Lib.hid (HI.out.below (gbox_below g w))
  clear hn h
  go_enter Tryd.func7, Tryd.ntmps7
  go_wp2_with fail
  refine (HP.out _ HI0.out).mono ?_
  rintro e w1 ⟨rfl, hb⟩
  have HB := Lib.hid (box_call hb)
  clear hb
  obtain ⟨c0, c1, c2, c3⟩ := HB.out.2.1
  have HI1 := Lib.hid (HI.out.below HB.out.1)
  go_wp2_with fail
  refine (HL.out _ HI1.out).mono ?_
  rintro e w2 ⟨r, rfl, hk, hr, hb⟩
  have HK := Lib.hid hk
  have HR := Lib.hid (Nat.le_trans HB.out.1.size hr)
  have HB2 := Lib.hid (HB.out.1.trans (hb.mono HB.out.1.size))
  clear hk hr hb
  go_wp2_with fail
  go_ret2
  exact ⟨r, rfl, HK.out, HR.out, HB2.out⟩
theorem cut_no (g : Gm) (l : List Int) (h : ¬ Heads g l) (hsm : ∀ x ∈ l, Small x) (sv : Value) (w : World) (hev : ErrVar w) (hs : IntsAt w sv l) : Calls Tryd.prog 7 #[g.v, sv] w fun e w' =>
    e = .returned (.tuple #[.slice none 0 0, .int .i64 1]) ∧ Below w.heap.size w w' := by
  have HP := Lib.hid fun w hs => hp_no g l h hsm sv w hs
  have HO := Lib.hid of_err
  have HI := Lib.hid hs
  obtain ⟨sa, sc, rfl, -⟩ := hs
  generalize l.length = z at *
  have HI0 := Lib.hid (HI.out.below (gbox_below g w))
  have HE := Lib.hid hev
  clear h hev
  go_enter Tryd.func7, Tryd.ntmps7
  go_wp2_with fail
  refine (HP.out _ HI0.out).mono ?_
  rintro e w1 ⟨T, d, t, ts, rfl, hc, hb⟩
  have HB := Lib.hid (box_call hb)
  have HC := Lib.hid hc
  have HE1 := Lib.hid (HE.out.below (Nat.le_refl _) HB.out.1)
  clear hb hc
  go_wp2_with fail
  refine (HO.out _ _ _ _ _ HE1.out HC.out).mono ?_
  rintro e w2 ⟨rfl, hb⟩
  have HB2 := Lib.hid (HB.out.1.trans (hb.mono HB.out.1.size))
  clear hb
  go_wp2_with fail
  go_ret2
  exact ⟨rfl, HB2.out⟩
end Go.Proofs.YtlmehhjgagddoaaDoor
