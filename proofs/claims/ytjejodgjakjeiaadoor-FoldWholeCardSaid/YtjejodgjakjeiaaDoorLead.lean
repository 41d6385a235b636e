/- What the three statements share: pages compared, a page of one byte, blocks that are not too long, blocks built, Page's contract as one. -/
import Derived.Test.YtjejodgjakjeiaaDoorRpage
import Derived.Test.YtjejodgjakjeiaaDoorRow
import Derived.Test.YtjejodgjakjeiaaDoorKeep
namespace Go.Proofs.YtjejodgjakjeiaaDoor
set_option linter.unusedSimpArgs false
set_option linter.unusedVariables false
open Go.RowKit

theorem guard26p : Tryd.prog.eqGuardType Tryd.prog.depth 26 = false := by kernel_rfl
/-- Two pages compared. -/
theorem exec_page {l m : List Int} {v : Bool} (hv : decide (l = m) = v) (hl : l.length = 32) (hm : m.length = 32) (ev : Operand → Value) (o : Oper) (w : World) {x y : Operand} {t : TypeId} (ho : o.op = .binOp .eql 26 x y t) (hx : ev x = .agg (u8s l).toArray) (hy : ev y = .agg (u8s m).toArray) : (execOp ev o).run Tryd.prog w = .ok (.value (.bool v)) w := by
  subst hv
  obtain ⟨i5, hi5, hs5⟩ := size_of info5s
  have hb := run_eql_ints (P := Tryd.prog) w 26 5 32 _ .u8 i5 l m Tryd.underlying26 Tryd.underlying5 hi5 hs5 hl hm
  unfold execOp
  simp only [ho, hx, hy, Sem.run_bind, run_eqGuard_agg w .eql 26 x y _ _ guard26p, Result.andThen_ok, hb, Sem.run_pure]
theorem exec_npage {l m : List Int} {v : Bool} (hv : (!decide (l = m)) = v) (hl : l.length = 32) (hm : m.length = 32) (ev : Operand → Value) (o : Oper) (w : World) {x y : Operand} {t : TypeId} (ho : o.op = .binOp .neq 26 x y t) (hx : ev x = .agg (u8s l).toArray) (hy : ev y = .agg (u8s m).toArray) : (execOp ev o).run Tryd.prog w = .ok (.value (.bool v)) w := by
  subst hv
  obtain ⟨i5, hi5, hs5⟩ := size_of info5s
  have hb := run_neq_ints (P := Tryd.prog) w 26 5 32 _ .u8 i5 l m Tryd.underlying26 Tryd.underlying5 hi5 hs5 hl hm
  unfold execOp
  simp only [ho, hx, hy, Sem.run_bind, run_eqGuard_agg w .neq 26 x y _ _ guard26p, Result.andThen_ok, hb, Sem.run_pure]

/-- A delta, an image, a block of the map with nothing else. -/
def Bk.delta (id off : Int) (l : List Int) (pv : Int) : Bk := ⟨2, id, zeros 32, off, l, pv, zeros 8⟩
def Bk.image (id : Int) (p : List Int) : Bk := ⟨1, id, p, 0, [], 0, zeros 8⟩
def Bk.map0 : Bk := ⟨3, 0, zeros 32, 0, [], 0, zeros 8⟩
theorem built30d (id off : Int) (l : List Int) (pv : Int) (a : Option Addr) (n c : Nat) : Tryd.prog.built 30 [(0, .int .i64 2), (1, .int .i64 id), (3, .int .i64 off), (4, .slice a n c), (5, .int .i64 pv)] = some ((Bk.delta id off l pv).arr (.slice a n c)) := by kernel_rfl
set_option maxRecDepth 100000 in
theorem built30i_32 (id : Int) (x0 x1 x2 x3 x4 x5 x6 x7 x8 x9 x10 x11 x12 x13 x14 x15 x16 x17 x18 x19 x20 x21 x22 x23 x24 x25 x26 x27 x28 x29 x30 x31 : Int) : Tryd.prog.built 30 [(0, .int .i64 1), (1, .int .i64 id), (2, .agg #[.int .u8 x0, .int .u8 x1, .int .u8 x2, .int .u8 x3, .int .u8 x4, .int .u8 x5, .int .u8 x6, .int .u8 x7, .int .u8 x8, .int .u8 x9, .int .u8 x10, .int .u8 x11, .int .u8 x12, .int .u8 x13, .int .u8 x14, .int .u8 x15, .int .u8 x16, .int .u8 x17, .int .u8 x18, .int .u8 x19, .int .u8 x20, .int .u8 x21, .int .u8 x22, .int .u8 x23, .int .u8 x24, .int .u8 x25, .int .u8 x26, .int .u8 x27, .int .u8 x28, .int .u8 x29, .int .u8 x30, .int .u8 x31])] = some ((Bk.image id [x0, x1, x2, x3, x4, x5, x6, x7, x8, x9, x10, x11, x12, x13, x14, x15, x16, x17, x18, x19, x20, x21, x22, x23, x24, x25, x26, x27, x28, x29, x30, x31]).arr (.slice none 0 0)) := by kernel_rfl
theorem built30i (id : Int) {p : List Int} (h : p.length = 32) : Tryd.prog.built 30 [(0, .int .i64 1), (1, .int .i64 id), (2, .agg (u8s p).toArray)] = some ((Bk.image id p).arr (.slice none 0 0)) := by
  obtain ⟨x0, x1, x2, x3, x4, x5, x6, x7, x8, x9, x10, x11, x12, x13, x14, x15, x16, x17, x18, x19, x20, x21, x22, x23, x24, x25, x26, x27, x28, x29, x30, x31, rfl⟩ := list32 h
  exact built30i_32 id x0 x1 x2 x3 x4 x5 x6 x7 x8 x9 x10 x11 x12 x13 x14 x15 x16 x17 x18 x19 x20 x21 x22 x23 x24 x25 x26 x27 x28 x29 x30 x31
theorem built30m : Tryd.prog.built 30 [(0, .int .i64 3)] = some (Bk.map0.arr (.slice none 0 0)) := by kernel_rfl
theorem Bk.delta_wf {id off pv : Int} {l : List Int} (h1 : Small id) (h2 : Small off) (h3 : Small pv) (h4 : l.length ≤ 9223372036854775807) (h5 : ∀ x ∈ l, Byte x) : (Bk.delta id off l pv).Wf := ⟨(⟨by decide, by decide⟩ : Small 2), h1, h2, h3, zeros_length 32, zeros_byte 32, h4, h5, zeros_length 8, zeros_small 8⟩
theorem Bk.image_wf {id : Int} {p : List Int} (h1 : Small id) (hp : Pg p) : (Bk.image id p).Wf := ⟨(⟨by decide, by decide⟩ : Small 1), h1, small0, small0, hp.length, hp.bytes, Nat.zero_le _, (fun x hx => by cases hx), zeros_length 8, zeros_small 8⟩
theorem Bk.map0_wf : Bk.map0.Wf := ⟨(⟨by decide, by decide⟩ : Small 3), small0, small0, small0, zeros_length 32, zeros_byte 32, Nat.zero_le _, (fun x hx => by cases hx), zeros_length 8, zeros_small 8⟩
theorem zeros_head : (zeros 8).all isHead = true := by decide
theorem delta_good {id off pv : Int} {l : List Int} : (Bk.delta id off l pv).good = (within id 0 63 && (within l.length 1 16 && within off 0 (32 - l.length) && isHead pv && !decide (pv = 0))) := by
  by_cases hz : pv = 0 <;> simp [Bk.good, Bk.delta, Bk.diff, hz]
theorem image_good {id : Int} {p : List Int} : (Bk.image id p).good = within id 0 63 := by
  simp [Bk.good, Bk.image, Bk.plain]

/-- Are blocks not too many, nor too long? -/
def fair (L : List Bk) : Bool := L.all (fun b => decide (b.bytes.length ≤ 300)) && decide (L.length ≤ 20)
theorem fair_no {L : List Bk} {b : Bk} {k : Nat} (h : L[k]? = some b) (h3 : 300 < b.bytes.length) : fair L = false := by
  unfold fair
  rw [Bool.and_eq_false_iff]
  refine .inl ?_
  rw [← Bool.not_eq_true, List.all_eq_true]
  intro e
  have := e b (List.mem_of_getElem? h)
  simp at this
  omega
theorem fair_yes {L : List Bk} (h : ∀ (j : Nat) (b : Bk), L[j]? = some b → b.bytes.length ≤ 300) : fair L = decide (L.length ≤ 20) := by
  unfold fair
  rw [List.all_eq_true.2 (fun b hb => by
    obtain ⟨j, hj⟩ := List.getElem?_of_mem hb
    exact decide_eq_true (h j b hj)), Bool.true_and]
theorem fair_iff {L : List Bk} (h : fair L = true) : L.length ≤ 20 ∧ ∀ b ∈ L, b.bytes.length ≤ 300 := by
  simp [fair] at h
  exact ⟨h.2, h.1⟩
theorem fair_any (l : List (Bk × Value)) (n : Nat) (hn : l.length = n) (hbig : n ≤ 9223372036854775807) (sv : Value) (w : World) (h : BlksAt w sv l) : Calls Tryd.prog 6 #[sv] w fun e w' => e = .returned (.bool (fair (l.map (·.1)))) ∧ w = w' := by
  rcases Nat.eq_zero_or_pos n with rfl | hpos
  · obtain rfl : l = [] := List.eq_nil_of_length_eq_zero hn
    obtain ⟨a, cap, rfl, -⟩ := h
    clear hn
    go_enter Tryd.func6, Tryd.ntmps6
    go_wp2_with fail
    go_loopg [3] 0 (fun q i wr => i = .int .i64 0 ∧ wr = w)
    case atStart => exact ⟨rfl, rfl⟩
    case round =>
      obtain ⟨rfl, rfl⟩ := hrel
      go_wp2_with fail
      go_ret
      exact ⟨rfl, rfl⟩
  obtain ⟨g, o, cap, rfl, hg, hc⟩ := h.has (by omega)
  rw [hn]
  have HN := Lib.hid hn
  have HC := Lib.hid hc
  clear hn hc hg h
  go_enter Tryd.func6, Tryd.ntmps6
  go_wp2_with fail
  go_loopg [3] n (fun q i wr => ∃ k : Nat, n - k ≤ q ∧ k ≤ n ∧ i = .int .i64 k ∧ (∀ j x, j < k → l[j]? = some x → x.1.bytes.length ≤ 300) ∧ wr = w)
  case atStart => exact ⟨0, by omega, by omega, rfl, fun j x hj => by omega, rfl⟩
  case round =>
    obtain ⟨k, hq, hk, rfl, hall, rfl⟩ := hrel
    have HALL := Lib.hid hall
    clear hall
    by_cases hlt : k < n
    · obtain ⟨x, hx⟩ : ∃ x, l[k]? = some x := ⟨_, List.getElem?_eq_getElem (by have := HN.out; omega)⟩
      obtain ⟨b, bv⟩ := x
      obtain ⟨x1, x2, x3⟩ := HC.out k _ hx
      obtain ⟨ba, bc, hbv⟩ := x2.len
      simp only at hbv x1 x3
      obtain ⟨bn, hbn⟩ : ∃ bn, b.bytes.length = bn := ⟨_, rfl⟩
      rw [hbn] at hbv
      subst hbv
      have c35 := x3 35 (by rw [Bk.arr_size x1]; decide)
      have e35 : (b.arr (.slice ba bn bc))[35]'(by rw [Bk.arr_size x1]; decide) = .slice ba bn bc := by
        have := Bk.at35 x1 (.slice ba bn bc)
        rw [List.getElem?_eq_getElem (by rw [Bk.cells_length x1]; decide)] at this
        exact Option.some.inj this
      rw [e35] at c35
      have gk : decide ((k : Int) < (n : Int)) = true := decide_eq_true (by omega)
      have gw : IntKind.i64.wrap ((k : Int) + 1) = (k : Int) + 1 := by rw [IntKind.wrap_i64]; omega
      have HX := Lib.hid hx
      have HBN := Lib.hid hbn
      clear e35 x1 x2 x3 hx hbn
      by_cases h3 : 300 < bn
      · have g3 : decide (300 < (bn : Int)) = true := decide_eq_true (by omega)
        go_wp2_with fail
        go_ret
        exact ⟨ret_bool (fair_no (k := k) (b := b) (by rw [List.getElem?_map, HX.out]; rfl) (by rw [HBN.out]; exact h3)).symm, rfl⟩
      · have g3 : decide (300 < (bn : Int)) = false := decide_eq_false (by omega)
        go_wp2_with fail
        go_roundg (n - (k + 1))
        case measure => omega
        case rel => exact ⟨k + 1, by omega, by omega, by go_num, fun j x hj e => by
          rcases Nat.lt_succ_iff_lt_or_eq.1 hj with hj | rfl
          · exact HALL.out j x hj e
          · rw [HX.out] at e
            cases e
            show b.bytes.length ≤ 300
            have := HBN.out
            omega, rfl⟩
    · obtain rfl : k = n := by omega
      have gk : decide ((k : Int) < (k : Int)) = false := decide_eq_false (by omega)
      go_wp2_with fail
      go_ret
      refine ⟨ret_bool ?_, rfl⟩
      rw [fair_yes (fun j b hj => by
        rw [List.getElem?_map] at hj
        cases hq : l[j]? with
        | none => rw [hq] at hj; cases hj
        | some x =>
          rw [hq] at hj
          cases hj
          exact HALL.out j x (by have := (List.getElem?_eq_some_iff.1 hq).1; have := HN.out; omega) hq), List.length_map, HN.out]
      by_cases h : k ≤ 20
      · rw [decide_eq_true h, decide_eq_true (by omega)]
      · rw [decide_eq_false h, decide_eq_false (by omega)]

def filled (v : Int) (k : Nat) : List Int := List.replicate k v ++ zeros (32 - k)
theorem filled_length (v : Int) {k : Nat} (h : k ≤ 32) : (filled v k).length = 32 := by simp [filled, zeros]; omega
theorem filled_set (v : Int) (k : Nat) (h : k < 32) : (filled v k).set k v = filled v (k + 1) := by
  unfold filled zeros
  rw [List.set_append_right _ _ (by simp), show 32 - k = (32 - (k + 1)) + 1 by omega, List.replicate_succ]
  simp only [List.length_replicate, Nat.sub_self, List.set_cons_zero]
  rw [List.replicate_succ', List.append_assoc]
  rfl
theorem filled_at (v : Int) (k : Nat) (h : k < 32) : (u8s (filled v k))[k]? = some (.int .u8 0) := by
  rw [List.getElem?_map]
  unfold filled zeros
  rw [List.getElem?_append_right (by simp)]
  simp only [List.length_replicate, Nat.sub_self]
  rw [List.getElem?_replicate, if_pos (by omega)]
  rfl
set_option maxRecDepth 100000 in
theorem leaf_any (v : Int) (w : World) : Calls Tryd.prog 12 #[.int .u8 v] w fun e w' => e = .returned (.agg (u8s (filled v 32)).toArray) ∧ Below w.heap.size w w' := by
  go_enter Tryd.func12, Tryd.ntmps12
  go_wp2_with fail
  obtain ⟨c0, e0⟩ : ∃ c, c = w.heap.size := ⟨_, rfl⟩
  rw [← e0]
  obtain ⟨c1, e1⟩ : ∃ c, c = c0 + 1 := ⟨_, rfl⟩
  rw [← e1]
  have E0 := Lib.hid e0
  have E1 := Lib.hid e1
  clear e0 e1
  go_loopg [4] 32 (fun g i wr => ∃ k : Nat, 32 - k ≤ g ∧ k ≤ 32 ∧ i = .int .i64 k ∧ Blk wr c0 (u8s (zeros 32)) ∧ Blk wr c1 (u8s (filled v k)) ∧ Below c0 w wr)
  case atStart =>
    have E0 := E0.out
    have E1 := E1.out
    subst E0
    subst E1
    refine ⟨0, by omega, by omega, rfl, ?_, ?_, ((Below.refl _ _).alloc (Nat.le_refl _) _).alloc (by simp) _⟩
    · exact (Blk.new w _ _).alloc _
    · exact Blk.newAt _ _ _ (by simp) rfl
  case round =>
    obtain ⟨k, hg, hk, rfl, hb0, hb1, hbel⟩ := hrel
    by_cases hlt : k < 32
    · have hcell := hb1.cell (filled_at v k hlt)
      have hfro := hb1.frozen k
      have HB0 := Lib.hid hb0
      have HB1 := Lib.hid hb1
      have HBel := Lib.hid hbel
      clear hb0 hb1 hbel
      go_wp2_with fail
      go_roundg (32 - (k + 1))
      case measure => omega
      case rel =>
        have E1 := E1.out
        refine ⟨k + 1, by omega, by omega, by go_num, HB0.out.setOther (by simp only; omega) _, ?_, HBel.out.setCell (by simp only; omega) _⟩
        have := HB1.out.set k (.int .u8 v)
        rw [show (u8s (filled v k)).set k (.int .u8 v) = u8s ((filled v k).set k v) by simp [List.map_set], filled_set v k hlt] at this
        exact this
    · have hk32 : k = 32 := by omega
      subst hk32
      have HB0 := Lib.hid hb0
      have HB1 := Lib.hid hb1
      have HBel := Lib.hid hbel
      have HL := Lib.hid (filled_length v (Nat.le_refl 32))
      have HZ32 := Lib.hid (zeros_length 32)
      obtain ⟨p, hp⟩ : ∃ p, filled v 32 = p := ⟨_, rfl⟩
      rw [hp] at HB1 HL
      have HP := Lib.hid hp
      clear hb0 hb1 hbel hlt hp
      go_upto_region 6 with fail
      refine wp_region_lit ?_
      refine load26 (cs := (u8s p).toArray) (Blk.all HB1.out rfl) (by rw [u8s_size, HL.out]) rfl rfl ?_
      try simp only [Act.put, List.setIfInBounds_toArray, List.set_cons_succ, List.set_cons_zero]
      refine store_all (cs := (u8s p).toArray) HB0.out (by rw [u8s_size, HL.out]; simp [HZ32.out]) (by rw [u8s_size, HL.out]; exact info26) (u8s_one _) rfl rfl rfl ?_
      intro w9 hD hO hlD
      try simp only [Act.put, List.setIfInBounds_toArray, List.set_cons_succ, List.set_cons_zero]
      refine wpList_nil ?_
      have HD := Lib.hid hD
      have HR := Lib.hid (HBel.out.trans (hO.below (by have := HBel.out.size; have := E0.out; omega) fun k hk => Nat.le_of_eq hk.symm))
      clear hD hO hlD
      go_wp2_with fail
      refine bodyPost_ret (v := .agg (u8s p).toArray) (results_cell_at rfl _ _ c0 0 _ _ rfl Tryd.underlying26 rfl (by rw [u8s_size, HL.out]; exact info26) (Blk.all HD.out rfl)) rfl ⟨by rw [HP.out], ?_⟩
      rw [← E0.out]
      exact HR.out
/-- The page of blocks, or that there is none. -/
def code (L : List Bk) : Int := if isChain L = true then 0 else 11
theorem page_any (l : List (Bk × Value)) (sv : Value) (w : World) (h : BlksAt w sv l) (hev : ErrVar w) : Calls Tryd.prog 8 #[sv] w fun e w' => e = .returned (.tuple #[.agg (u8s (told (l.map (·.1)))).toArray, .int .i64 (code (l.map (·.1)))]) ∧ Below w.heap.size w w' := by
  unfold told code
  cases hc : isChain (l.map (·.1)) with
  | true => simpa using page_yes l hc sv w h hev
  | false => simpa using page_no l hc sv w h
theorem rpage_any (l : List (Bk × Value)) (sv : Value) (w : World) (h : BlksAt w sv l) : Calls Tryd.prog 9 #[sv] w fun e w' => e = .returned (.agg (u8s (told (l.map (·.1))) ++ [Value.bool (isChain (l.map (·.1)))]).toArray) ∧ Below w.heap.size w w' := by
  obtain ⟨n, hn⟩ : ∃ n, l.length = n := ⟨_, rfl⟩
  rcases Nat.lt_or_ge 3 n with h3 | h3
  · have hno : isChain (l.map (·.1)) = false := by
      rw [← Bool.not_eq_true, isChain_iff]
      simp
      omega
    unfold told
    rw [hno]
    simpa using rpage_many l n hn h3 sv w h
  rcases Nat.eq_zero_or_pos n with rfl | hpos
  · obtain rfl : l = [] := List.eq_nil_of_length_eq_zero hn
    exact rpage_zero sv w h
  · exact rpage_some l n hn h3 hpos sv w h
end Go.Proofs.YtjejodgjakjeiaaDoor
