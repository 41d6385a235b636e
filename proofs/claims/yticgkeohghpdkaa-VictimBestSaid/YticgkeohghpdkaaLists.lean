/- Slices of ages, a watch; the statements' own at and listed. -/
import Derived.Test.YticgkeohghpdkaaCore
namespace Go.Proofs.Yticgkeohghpdkaa
set_option linter.unusedSimpArgs false
set_option linter.unusedVariables false
open Go.RowKit

/-- A slice of ages. -/
def AgesAt (w : World) (sv : Value) (l : List Int) : Prop := ∃ a cap, sv = .slice a l.length cap ∧ ∀ i x, l[i]? = some x → ∃ b o, a = some ⟨b, o, none⟩ ∧ w.cell? ⟨b, o + i, none⟩ = some (.int .u32 x)
theorem AgesAt.below {w w' : World} {sv : Value} {l : List Int} (h : AgesAt w sv l) (hb : Below w.heap.size w w') : AgesAt w' sv l := by
  obtain ⟨a, cap, e, hc⟩ := h
  refine ⟨a, cap, e, fun i x hx => ?_⟩
  obtain ⟨b, o, e2, hx2⟩ := hc i x hx
  exact ⟨b, o, e2, (hb.cell (block_lt_of_cell hx2)).trans hx2⟩
/-- All segments: their live, their ages; now; their size. -/
structure Wa where
  live : List Int
  age : List Int
  now : Int
  size : Int
def Wa.at (g : Wa) (s : Nat) : Wt := ⟨g.live.getD s 0, g.age.getD s 0, g.now, g.size⟩
structure Wa.Wf (g : Wa) : Prop where
  n0 : 0 ≤ g.now
  n1 : g.now < 4294967296
  ages : ∀ x ∈ g.age, 0 ≤ x ∧ x < 4294967296
theorem Wa.Wf.at {g : Wa} (h : g.Wf) (s : Nat) : (g.at s).Wf := by
  refine ⟨?_, ?_, h.n0, h.n1⟩ <;> simp only [Wa.at, List.getD] <;> cases e : g.age[s]? with
  | none => simp
  | some x => have := h.ages x (List.mem_of_getElem? e); simp; omega
theorem noWt_wf : noWt.Wf := ⟨by decide, by decide, by decide, by decide⟩
theorem oneWt_wf : oneWt.Wf := ⟨by decide, by decide, by decide, by decide⟩
structure WatchAt (w : World) (v : Value) (g : Wa) (lv av : Value) : Prop where
  form : v = .agg #[lv, av, .int .u32 g.now, .int .i64 g.size]
  live : IntsAt w lv g.live
  age : AgesAt w av g.age
theorem WatchAt.below {w w' : World} {v lv av : Value} {g : Wa} (h : WatchAt w v g lv av) (hb : Below w.heap.size w w') : WatchAt w' v g lv av := ⟨h.form, h.live.below hb, h.age.below hb⟩

theorem results_blk {P : Program} {fn : Func} {p : Tmp} {ty : TypeId} (h : fn.results = #[.cell p ty]) (tmps : Array Value) (w : World) (g : Nat) (l : List Value) (d : TypeDesc)
    (hp : tmps.getD p undef = .pointer (some ⟨g, 0, none⟩)) (hg : Blk w g l) (hu : P.underlying ty = some d) (hd : (match d with | .struct _ | .array _ _ => true | _ => false) = true) (hi : (P.info? ty).map (·.size) = some l.length) :
    (results fn tmps).run P w = .ok (.agg l.toArray) w := by
  obtain ⟨t, ht⟩ := hg
  exact results_cell_row h tmps w g t l.toArray _ d hp ht hu hd (by simpa using hi)
theorem info35 : (Try.prog.info? 35).map (·.size) = some 4 := by kernel_rfl
set_option maxRecDepth 100000 in
theorem at_any (g : Wa) (s : Nat) (hs : s < g.live.length) (hs2 : s < g.age.length) (v lv av : Value) (w : World) (h : WatchAt w v g lv av) : Calls Try.prog 10 #[v, .int .i64 s] w fun e w' => e = .returned (g.at s).v ∧ Below w.heap.size w w' := by
  obtain ⟨rfl, ⟨la, lc, rfl, hl⟩, ⟨aa, ac, rfl, ha⟩⟩ := h
  obtain ⟨live, age, now, size⟩ := g
  simp only at *
  have h1 : live[s]? = some live[s] := by simp [hs]
  have h2 : age[s]? = some age[s] := by simp [hs2]
  obtain ⟨b, o, rfl, x1⟩ := hl s _ h1
  obtain ⟨c, p, rfl, x2⟩ := ha s _ h2
  have HV : Hid ((Wa.mk live age now size).at s = ⟨live[s], age[s], now, size⟩) := Lib.hid (by simp [Wa.at, List.getD, h1, h2])
  rw [HV.out]
  generalize live[s] = x at *
  generalize age[s] = y at *
  clear hl ha h1 h2 HV
  have hs3 : (s : Int) < live.length := by omega
  have hs4 : (s : Int) < age.length := by omega
  have hb := two_below w (.cells #[.slice (some ⟨b, o, none⟩) live.length lc, .slice (some ⟨c, p, none⟩) age.length ac, .int .u32 now, .int .i64 size] 29) (.cells #[.int .i64 0, .int .u32 0, .int .u32 0, .int .i64 0] 35)
  have y1 := (hb.cell (block_lt_of_cell x1)).trans x1
  have y2 := (hb.cell (block_lt_of_cell x2)).trans x2
  go_enter Try.func10, Try.ntmps10
  go_wp2_with fail
  go_region
  go_wp2_with fail
  refine bodyPost_ret (results_blk rfl _ _ (w.heap.size + 1) [_, _, _, _] _ rfl (Blk.newAt _ _ _ (by simp) rfl) Try.underlying35 rfl info35) rfl ⟨rfl, (two_below _ _ _).drew⟩

set_option maxRecDepth 100000 in
theorem listed_any (l : List Int) (hn : l.length ≤ 1000) (v : Int) (sv : Value) (w : World) (h : IntsAt w sv l) : Calls Try.prog 8 #[sv, .int .i64 v] w fun e w' => e = .returned (.bool (decide (v ∈ l))) ∧ w = w' := by
  obtain ⟨a, cap, rfl, hc⟩ := h
  have HC := Lib.hid hc
  clear hc
  go_enter Try.func8, Try.ntmps8
  go_wp2_with fail
  go_loopg [5] l.length (fun q i wr => ∃ k : Nat, l.length - k ≤ q ∧ k ≤ l.length ∧ i = .int .i64 k ∧ v ∉ l.take k ∧ w = wr)
  case atStart => exact ⟨0, by omega, by omega, rfl, by simp, rfl⟩
  case round =>
    obtain ⟨k, hq, hk, rfl, hv, rfl⟩ := hrel
    have HV := Lib.hid hv
    clear hv
    by_cases hlt : k < l.length
    · have hk1 : (k : Int) < (l.length : Int) := by omega
      have hlk : l[k]? = some l[k] := by simp [hlt]
      obtain ⟨b, o, rfl, c1⟩ := HC.out k l[k] hlk
      generalize l[k] = x at *
      have HL := Lib.hid hlk
      clear hlk
      by_cases hx : x = v
      · have e1 : (x == v) = true := by simpa using hx
        have HD : Hid (decide (v ∈ l) = true) := Lib.hid (decide_eq_true (by rw [← hx]; exact List.mem_of_getElem? HL.out))
        clear hx
        go_wp2_with fail
        go_ret
        exact ⟨ret_bool HD.out.symm, rfl⟩
      · have e1 : (x == v) = false := by simpa using hx
        have HN : Hid (v ∉ l.take (k + 1)) := Lib.hid (by rw [List.take_add_one, HL.out]; simp; exact ⟨HV.out, fun e => hx e.symm⟩)
        clear hx
        go_wp2_with fail
        go_roundg (l.length - (k + 1))
        case measure => omega
        case rel => exact ⟨k + 1, by omega, by omega, by go_num, HN.out, rfl⟩
    · obtain rfl : k = l.length := by omega
      have hk1 : ¬ (l.length : Int) < (l.length : Int) := by omega
      have HD : Hid (decide (v ∈ l) = false) := Lib.hid (decide_eq_false (by have := HV.out; rwa [List.take_length] at this))
      go_wp2_with fail
      go_ret
      exact ⟨ret_bool HD.out.symm, rfl⟩

abbrev bools (l : List Bool) : List Value := l.map Value.bool
theorem info4 : (Try.prog.info? 4).map (fun i => (i.zero, i.size, i.bytes)) = some (some (.bool false), 1, 1) := by kernel_rfl
theorem make38 (n : Nat) (hn : n ≤ 1000) (w : World) : (Instr.makeSlice 38 (.int .i64 (n : Int)) (.int .i64 (n : Int))).run Try.prog w = .ok (.slice (some ⟨w.heap.size, 0, none⟩) n n) (w.alloc (.cells (Array.replicate n (Value.bool false)) 4)) := by
  obtain ⟨i, hi, hz, hs, hb⟩ : ∃ i, Try.prog.info? 4 = some i ∧ i.zero = some (.bool false) ∧ i.size = 1 ∧ i.bytes = 1 := by
    have := info4
    cases hq : Try.prog.info? 4 with
    | none => simp [hq] at this
    | some i => simp [hq] at this; exact ⟨i, rfl, this⟩
  have := run_makeSlice (P := Try.prog) w 38 4 i _ Try.underlying38 hi hz .i64 .i64 n n (by omega) (Int.le_refl _) (by rw [hs]; omega) (by rw [hb]; omega) (by omega)
  rw [hs] at this
  have e : madeCells #[.bool false] n = Array.replicate n (Value.bool false) := by
    apply Array.ext_getElem?
    intro q
    by_cases hq : q < n
    · simp [madeCells, hq, Nat.mod_one]
    · rw [Array.getElem?_eq_none (by rw [size_madeCells]; omega), Array.getElem?_eq_none (by simp; omega)]
  rw [← e]
  simpa [Value.cells] using this
theorem Blk.bool {w : World} {g : Nat} {l : List Bool} (h : Blk w g (bools l)) {i : Nat} {x : Bool} (hx : l[i]? = some x) : w.cell? ⟨g, i, none⟩ = some (.bool x) := h.cell (by simp [hx])
theorem Blk.setBool {w : World} {g : Nat} {l : List Bool} (h : Blk w g (bools l)) (i : Nat) (x : Bool) : Blk (w.setCell ⟨g, i, none⟩ (.bool x)) g (bools (l.set i x)) := by
  have := h.set i (.bool x)
  rwa [← List.map_set] at this

set_option maxRecDepth 100000 in
theorem passed_any (n : Nat) (hn : n ≤ 1000) (l : List Int) (hl : l.length ≤ 1000) (sv : Value) (w : World) (h : IntsAt w sv l) :
    Calls Try.prog 12 #[.int .i64 n, sv] w fun e w' => ∃ g, e = .returned (.slice (some ⟨g, 0, none⟩) n n) ∧ Blk w' g (bools (outs l n)) ∧ w.heap.size ≤ g ∧ Below w.heap.size w w' := by
  obtain ⟨a, cap, rfl, hc⟩ := h
  have HC := Lib.hid hc
  have MK := fun w => make38 n hn w
  clear hc
  go_enter Try.func12, Try.ntmps12
  go_wp2_with fail
  have HN : Hid (outs (l.take 0) n = List.replicate n false) := Lib.hid (by rw [List.take_zero, outs_nil])
  obtain ⟨r, hr⟩ : ∃ r, w.heap.size = r := ⟨_, rfl⟩
  have HMO : Hid (Blk (w.alloc (.cells (Array.replicate n (Value.bool false)) 4)) r (bools (outs (l.take 0) n))) := Lib.hid (by rw [HN.out]; exact Blk.newAt _ _ _ hr.symm (by simp [bools]))
  have HMB : Hid (Below r w (w.alloc (.cells (Array.replicate n (Value.bool false)) 4))) := Lib.hid (by rw [← hr]; exact alloc_below w _)
  have HR : Hid (w.heap.size ≤ r) := Lib.hid (by omega)
  simp only [hr]
  clear hr HN MK
  go_loopg [12] l.length (fun q i wr => ∃ k : Nat, l.length - k ≤ q ∧ k ≤ l.length ∧ i = .int .i64 k ∧ Blk wr r (bools (outs (l.take k) n)) ∧ Below r w wr)
  case atStart => exact ⟨0, by omega, by omega, rfl, HMO.out, HMB.out⟩
  case round =>
    obtain ⟨k, hq, hk, rfl, ho, hb⟩ := hrel
    have HO := Lib.hid ho
    have HB := Lib.hid hb
    have HX := Lib.hid (hb.mono HR.out)
    clear ho hb HMO HMB
    by_cases hlt : k < l.length
    · have hk1 : (k : Int) < (l.length : Int) := by omega
      have hlk : l[k]? = some l[k] := by simp [hlt]
      obtain ⟨b, o, rfl, c1⟩ := HC.out k l[k] hlk
      have d1 := (HX.out.cell (block_lt_of_cell c1)).trans c1
      generalize l[k] = x at *
      have HL := Lib.hid hlk
      clear hlk c1
      by_cases hx : 0 ≤ x ∧ x < n
      · obtain ⟨x0, x1⟩ := hx
        obtain ⟨u, rfl⟩ := Int.eq_ofNat_of_zero_le x0
        have hu : u < n := by omega
        have HM := Lib.hid (outs_more_yes (not := l) (n := n) HL.out rfl hu)
        have p1 := HO.out.frozen u
        have p2 := HO.out.bool (outs_at (not := l.take k) hu)
        go_wp2_with fail
        go_roundg (l.length - (k + 1))
        case measure => omega
        case rel => exact ⟨k + 1, by omega, by omega, by go_num, by rw [HM.out]; exact HO.out.setBool u true, HB.out.setCell (Nat.le_refl _) _⟩
      · have HM := Lib.hid (outs_more_no (not := l) (n := n) HL.out hx)
        by_cases x0 : 0 ≤ x
        · have x1 : ¬ x < n := fun h => hx ⟨x0, h⟩
          clear hx
          go_wp2_with fail
          go_roundg (l.length - (k + 1))
          case measure => omega
          case rel => exact ⟨k + 1, by omega, by omega, by go_num, by rw [HM.out]; exact HO.out, HB.out⟩
        · clear hx
          go_wp2_with fail
          go_roundg (l.length - (k + 1))
          case measure => omega
          case rel => exact ⟨k + 1, by omega, by omega, by go_num, by rw [HM.out]; exact HO.out, HB.out⟩
    · obtain rfl : k = l.length := by omega
      have hk1 : ¬ (l.length : Int) < (l.length : Int) := by omega
      have HT : Hid (l.take l.length = l) := Lib.hid List.take_length
      go_wp2_with fail
      go_ret
      exact ⟨r, rfl, by have := HO.out; rwa [HT.out] at this, HR.out, HX.out⟩
end Go.Proofs.Yticgkeohghpdkaa
