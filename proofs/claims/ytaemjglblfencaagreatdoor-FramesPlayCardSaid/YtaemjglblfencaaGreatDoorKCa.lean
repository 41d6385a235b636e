/- The small calls of a clock: what a frame is. -/
import Derived.Test.YtaemjglblfencaaGreatDoorKs
namespace Go.Proofs.YtaemjglblfencaaGreatDoor
namespace Kl
set_option linter.unusedSimpArgs false
set_option linter.unusedVariables false
open Go.RowKit

theorem alloc_below (w : World) (o : Obj) : Below w.heap.size w (w.alloc o) := (Below.refl _ _).alloc (Nat.le_refl _) o
theorem two_below (w : World) (o p : Obj) : Below w.heap.size w ((w.alloc o).alloc p) := ((Below.refl _ _).alloc (Nat.le_refl _) o).alloc (by simp) _
theorem three_below (w : World) (o p q : Obj) : Below w.heap.size w (((w.alloc o).alloc p).alloc q) := (two_below w o p).alloc (two_below w o p).size _
theorem Blk.newAt (w : World) (cs : Array Value) (t : TypeId) {b : Nat} {l : List Value} (hb : b = w.heap.size) (hl : cs.toList = l) : Blk (w.alloc (.cells cs t)) b l := by
  subst hb
  subst hl
  exact Blk.new w cs t
theorem results_blk {P : Program} {fn : Func} {p : Tmp} {ty : TypeId} (h : fn.results = #[.cell p ty]) (tmps : Array Value) (w : World) (g : Nat) (l : List Value) (d : TypeDesc)
    (hp : tmps.getD p undef = .pointer (some ⟨g, 0, none⟩)) (hg : Blk w g l) (hu : P.underlying ty = some d) (hd : (match d with | .struct _ | .array _ _ => true | _ => false) = true) (hi : (P.info? ty).map (·.size) = some l.length) :
    (results fn tmps).run P w = .ok (.agg l.toArray) w := by
  obtain ⟨t, ht⟩ := hg
  exact results_cell_row h tmps w g t l.toArray _ d hp ht hu hd (by simpa using hi)
def ptr (b : Nat) : Value := .pointer (some ⟨b, 0, none⟩)
set_option maxRecDepth 100000 in
theorem count_any (w : World) (b r cap : Nat) (tl : List Value) (c : Ck) (h : At encC w b r cap tl c) : Calls Tryz.prog 57 #[.pointer (some ⟨b, 0, none⟩)] w fun e w' => e = .returned (.int .i64 c.l.length) ∧ w = w' := by
  have c0 := h.blk.cell (i := 0) rfl
  clear h
  generalize c.l.length = n at *
  go_enter Tryz.func57, Tryz.ntmps57
  go_wp2_with fail
  go_ret
  exact ⟨rfl, rfl⟩
def traits : Option Fm → Array Value
  | none => #[.bool false, .bool false, .bool false]
  | some f => #[.bool true, .bool f.K, .bool f.P]
theorem info87 : (Tryz.prog.info? 87).map (·.size) = some 3 := by kernel_rfl
set_option maxRecDepth 100000 in
theorem what_no (w : World) (b r cap : Nat) (tl : List Value) (c : Ck) (h : At encC w b r cap tl c) (i : Int) (hi : c.get i = none) : Calls Tryz.prog 46 #[.pointer (some ⟨b, 0, none⟩), .int .i64 i] w fun e w' => e = .returned (.agg #[.bool false, .bool false, .bool false]) ∧ Below w.heap.size w w' := by
  have hb := two_below w (.cells #[.bool false, .bool false, .bool false] 87) (.cells #[.bool false, .bool false, .bool false] 87)
  have HA := Lib.hid (h.below hb)
  have HB := Lib.hid hb
  have hn := Ck.get_none hi
  clear h hi hb
  by_cases h0 : i < 0
  · have d0 : decide (i < 0) = true := decide_eq_true h0
    clear hn
    go_enter Tryz.func46, Tryz.ntmps46
    go_wp2_with fail
    refine bodyPost_ret (results_blk rfl _ _ w.heap.size [_, _, _] _ rfl ((Blk.newAt _ _ _ rfl rfl).alloc _) Tryz.underlying87 rfl info87) rfl ⟨rfl, HB.out⟩
  · have d0 : decide (i < 0) = false := decide_eq_false h0
    have d1 : decide ((c.l.length : Int) ≤ i) = true := decide_eq_true (by omega)
    clear hn
    go_enter Tryz.func46, Tryz.ntmps46
    go_wp2_with fail
    refine (count_any _ b r cap tl c HA.out).mono ?_
    rintro e w' ⟨rfl, rfl⟩
    go_wp2_with fail
    refine bodyPost_ret (results_blk rfl _ _ w.heap.size [_, _, _] _ rfl ((Blk.newAt _ _ _ rfl rfl).alloc _) Tryz.underlying87 rfl info87) rfl ⟨rfl, HB.out⟩
set_option maxRecDepth 100000 in
theorem what_yes (w : World) (b r cap : Nat) (tl : List Value) (c : Ck) (h : At encC w b r cap tl c) (k : Nat) (f : Fm) (hf : c.l[k]? = some f) (hpk : f.P = true → f.K = true) : Calls Tryz.prog 46 #[.pointer (some ⟨b, 0, none⟩), .int .i64 k] w fun e w' => e = .returned (.agg #[.bool true, .bool f.K, .bool f.P]) ∧ Below w.heap.size w w' := by
  have hb := two_below w (.cells #[.bool false, .bool false, .bool false] 87) (.cells #[.bool false, .bool false, .bool false] 87)
  have h2 := h.below hb
  have HA := Lib.hid h2
  have HB := Lib.hid hb
  have hlt := (List.getElem?_eq_some_iff.1 hf).1
  have d0 : decide ((k : Int) < 0) = false := decide_eq_false (by omega)
  have d1 : decide ((c.l.length : Int) ≤ k) = false := decide_eq_false (by omega)
  have b0 := h2.blk.cell (i := 0) rfl
  have x0 := h2.cell encC_len hf (j := 0) rfl
  have x1 := h2.cell encC_len hf (j := 1) rfl
  have x2 := h2.cell encC_len hf (j := 2) rfl
  have x3 := h2.cell encC_len hf (j := 3) rfl
  rw [Nat.add_zero] at x0
  obtain ⟨key, mark, pins⟩ := f
  simp only [Fm.K, Fm.P] at *
  generalize (if 0 ≤ key then key else 0) = kv at *
  have hk1 : k < c.l.length := hlt
  have hk2 : (k : Int) < (c.l.length : Int) := by omega
  have HC := Lib.hid (fun w' => count_any w' b r cap tl c)
  clear h h2 hb hf
  generalize c.l.length = n at *
  by_cases hp : 0 < pins
  · have hK : decide (0 ≤ key) = true := hpk (decide_eq_true hp)
    have dp : decide (0 < pins) = true := decide_eq_true hp
    rw [hK, dp]
    rw [hK] at x1
    clear hpk hK
    go_enter Tryz.func46, Tryz.ntmps46
    go_wp2_with fail
    refine (HC.out _ HA.out).mono ?_
    rintro e w' ⟨rfl, rfl⟩
    go_wp2_with fail
    exact bodyPost_ret (results_blk rfl _ _ w.heap.size [_, _, _] _ rfl (((Blk.newAt _ _ _ rfl rfl).alloc _).alloc _) Tryz.underlying87 rfl info87) rfl ⟨rfl, three_below _ _ _ _⟩
  · have dp : decide (0 < pins) = false := decide_eq_false hp
    rw [dp]
    clear hpk
    by_cases hK0 : 0 ≤ key
    · have hK : decide (0 ≤ key) = true := decide_eq_true hK0
      rw [hK] at x1 ⊢
      clear hK
      go_enter Tryz.func46, Tryz.ntmps46
      go_wp2_with fail
      refine (HC.out _ HA.out).mono ?_
      rintro e w' ⟨rfl, rfl⟩
      go_wp2_with fail
      exact bodyPost_ret (results_blk rfl _ _ w.heap.size [_, _, _] _ rfl (((Blk.newAt _ _ _ rfl rfl).alloc _).alloc _) Tryz.underlying87 rfl info87) rfl ⟨rfl, three_below _ _ _ _⟩
    · have hK : decide (0 ≤ key) = false := decide_eq_false hK0
      rw [hK] at x1 ⊢
      clear hK
      go_enter Tryz.func46, Tryz.ntmps46
      go_wp2_with fail
      refine (HC.out _ HA.out).mono ?_
      rintro e w' ⟨rfl, rfl⟩
      go_wp2_with fail
      exact bodyPost_ret (results_blk rfl _ _ w.heap.size [_, _, _] _ rfl (((Blk.newAt _ _ _ rfl rfl).alloc _).alloc _) Tryz.underlying87 rfl info87) rfl ⟨rfl, three_below _ _ _ _⟩
theorem what_any {B : Nat} (w : World) (b r cap : Nat) (tl : List Value) (c : Ck) (h : At encC w b r cap tl c) (ho : c.Ok B) (i : Int) : Calls Tryz.prog 46 #[.pointer (some ⟨b, 0, none⟩), .int .i64 i] w fun e w' => e = .returned (.agg (traits (c.get i))) ∧ Below w.heap.size w w' := by
  cases hg : c.get i with
  | none => exact what_no w b r cap tl c h i hg
  | some f =>
    obtain ⟨k, rfl, _, hk⟩ := Ck.get_some hg
    exact what_yes w b r cap tl c h k f hk (ho.all k f hk).pk
set_option maxRecDepth 100000 in
theorem may_any {B : Nat} (w : World) (b r cap : Nat) (tl : List Value) (c : Ck) (h : At encC w b r cap tl c) (ho : c.Ok B) (i : Int) : Calls Tryz.prog 59 #[.pointer (some ⟨b, 0, none⟩), .int .i64 i] w fun e w' => e = .returned (.bool (c.may i)) ∧ Below w.heap.size w w' := by
  have HW := Lib.hid (what_any w b r cap tl c h ho i)
  unfold Ck.may
  clear h ho
  cases hg : c.get i with
  | none =>
    rw [hg] at HW
    clear hg
    simp only [traits] at HW
    go_enter Tryz.func59, Tryz.ntmps59
    go_wp2_with fail
    refine HW.out.mono ?_
    rintro e w1 ⟨rfl, hb⟩
    have HB := Lib.hid (stay hb (alloc_below w1 (.cells #[.bool false, .bool false, .bool false] 87)))
    clear hb
    go_wp2_with fail
    go_ret
    exact ⟨rfl, HB.out⟩
  | some f =>
    rw [hg] at HW
    clear hg
    simp only [traits] at HW
    generalize f.K = kb at *
    simp only
    cases hP : f.P with
    | true =>
      rw [hP] at HW
      clear hP
      go_enter Tryz.func59, Tryz.ntmps59
      go_wp2_with fail
      refine HW.out.mono ?_
      rintro e w1 ⟨rfl, hb⟩
      have HB := Lib.hid hb
      clear hb
      go_wp2_with fail
      go_ret
      exact ⟨rfl, stay HB.out (alloc_below w1 _)⟩
    | false =>
      rw [hP] at HW
      clear hP
      go_enter Tryz.func59, Tryz.ntmps59
      go_wp2_with fail
      refine HW.out.mono ?_
      rintro e w1 ⟨rfl, hb⟩
      have HB := Lib.hid hb
      clear hb
      go_wp2_with fail
      go_ret
      exact ⟨rfl, stay HB.out (alloc_below w1 _)⟩
theorem field87k (a b c : Bool) (w : World) : (Instr.field 87 (.agg #[.bool a, .bool b, .bool c]) 1).run Tryz.prog w = .ok (.bool b) w := by kernel_rfl
theorem field87p (a b c : Bool) (w : World) : (Instr.field 87 (.agg #[.bool a, .bool b, .bool c]) 2).run Tryz.prog w = .ok (.bool c) w := by kernel_rfl
def keyR : Option Fm → Value
  | some f => if f.K then .tuple #[.int .i64 f.key, .bool true] else .tuple #[.int .i64 0, .bool false]
  | none => .tuple #[.int .i64 0, .bool false]
set_option maxRecDepth 100000 in
theorem key_any {B : Nat} (w : World) (b r cap : Nat) (tl : List Value) (c : Ck) (h : At encC w b r cap tl c) (ho : c.Ok B) (i : Int) : Calls Tryz.prog 58 #[.pointer (some ⟨b, 0, none⟩), .int .i64 i] w fun e w' => e = .returned (keyR (c.get i)) ∧ Below w.heap.size w w' := by
  have HW := Lib.hid (what_any w b r cap tl c h ho i)
  have HA := Lib.hid h
  clear h ho
  cases hg : c.get i with
  | none =>
    rw [hg] at HW
    clear hg
    simp only [keyR, traits] at *
    have flk := field87k
    have flp := field87p
    go_enter Tryz.func58, Tryz.ntmps58
    go_wp2_with fail
    refine HW.out.mono ?_
    rintro e w1 ⟨rfl, hb⟩
    have HB := Lib.hid hb
    clear hb
    go_wp2_with fail
    go_ret2
    exact ⟨rfl, HB.out⟩
  | some f =>
    rw [hg] at HW
    obtain ⟨k, rfl, hlt, hk⟩ := Ck.get_some hg
    simp only [keyR, traits] at *
    generalize f.P = pb at *
    cases hK : f.K with
    | false =>
      rw [hK] at HW
      clear hK hg hk
      have flk := field87k
      have flp := field87p
      go_enter Tryz.func58, Tryz.ntmps58
      go_wp2_with fail
      refine HW.out.mono ?_
      rintro e w1 ⟨rfl, hb⟩
      have HB := Lib.hid hb
      clear hb
      go_wp2_with fail
      go_ret2
      exact ⟨rfl, HB.out⟩
    | true =>
      rw [hK] at HW
      have HK : Hid (c.l[k]? = some f) := Lib.hid hk
      have HV : Hid ((if 0 ≤ f.key then f.key else 0) = f.key) := Lib.hid (if_pos (by simpa [Fm.K] using hK))
      clear hK hg hk
      have flk := field87k
      have flp := field87p
      go_enter Tryz.func58, Tryz.ntmps58
      go_wp2_with fail
      refine HW.out.mono ?_
      rintro e w1 ⟨rfl, hb⟩
      have HB := Lib.hid hb
      have h2 := HA.out.below hb
      have b0 := h2.blk.cell (i := 0) rfl
      have x0 := h2.cell encC_len HK.out (j := 0) rfl
      rw [Nat.add_zero, HV.out] at x0
      have hk2 : (k : Int) < (c.l.length : Int) := by omega
      clear hb h2
      go_wp2_with fail
      go_ret2
      exact ⟨rfl, HB.out⟩
def findR : Option Nat → Value
  | some k => .tuple #[.int .i64 k, .bool true]
  | none => .tuple #[.int .i64 0, .bool false]
set_option maxRecDepth 100000 in
theorem find_any {B : Nat} (w : World) (b r cap : Nat) (tl : List Value) (c : Ck) (h : At encC w b r cap tl c) (ho : c.Ok B) (key : Int) : Calls Tryz.prog 42 #[.pointer (some ⟨b, 0, none⟩), .int .i64 key] w fun e w' => e = .returned (findR (c.find key)) ∧ Below w.heap.size w w' := by
  have HC := Lib.hid (count_any w b r cap tl c h)
  have HA := Lib.hid h
  have HO := Lib.hid ho
  have hn1 := ho.n1
  unfold Ck.find
  have HF : Hid (firstFrom (isKey key) c.l 0 = firstFrom (isKey key) (c.l.drop 0) 0) := Lib.hid (by rw [List.drop_zero])
  clear h ho
  go_enter Tryz.func42, Tryz.ntmps42
  go_wp2_with fail
  refine HC.out.mono ?_
  rintro e w' ⟨rfl, rfl⟩
  go_wp2_with fail
  go_loopg [11] c.l.length (fun q i wr => ∃ k : Nat, c.l.length - k ≤ q ∧ k ≤ c.l.length ∧ i = .int .i64 k ∧ firstFrom (isKey key) c.l 0 = firstFrom (isKey key) (c.l.drop k) k ∧ Below w.heap.size w wr)
  case atStart => exact ⟨0, by omega, by omega, rfl, HF.out, Below.refl _ _⟩
  case round =>
    obtain ⟨k, hq, hk, rfl, hf, hb⟩ := hrel
    have HE := Lib.hid hf
    have HB := Lib.hid hb
    clear hf
    by_cases hlt : k < c.l.length
    · have hk1 : (k : Int) < (c.l.length : Int) := by omega
      obtain ⟨f, hfk⟩ : ∃ f, c.l[k]? = some f := ⟨_, List.getElem?_eq_getElem hlt⟩
      have HK := Lib.hid hfk
      have HW : Hid (Calls Tryz.prog 58 #[.pointer (some ⟨b, 0, none⟩), .int .i64 k] wr fun e w' => e = .returned (keyR (some f)) ∧ Below wr.heap.size wr w') := Lib.hid (by
        have := key_any wr b r cap tl c (HA.out.below hb) HO.out k
        rwa [Ck.get_nat, hfk] at this)
      clear hb hfk
      simp only [keyR] at HW
      cases hK : f.K with
      | false =>
        have HN : Hid (isKey key f = false) := Lib.hid (by simp [isKey, hK])
        simp only [hK, Bool.false_eq_true, if_false] at HW
        clear hK
        go_wp2_with fail
        refine HW.out.mono ?_
        rintro e w1 ⟨rfl, hb⟩
        have HB1 := Lib.hid (stay HB.out hb)
        clear hb
        go_wp2_with fail
        go_roundg (c.l.length - (k + 1))
        case measure => omega
        case rel => exact ⟨k + 1, by omega, by omega, by go_num, by rw [HE.out, first_next HK.out HN.out], HB1.out⟩
      | true =>
        simp only [hK, if_true] at HW
        by_cases he : f.key = key
        · have HN : Hid (isKey key f = true) := Lib.hid (by simp [isKey, hK, he])
          have e1 : (f.key == key) = true := by simpa using he
          have HR : Hid (firstFrom (isKey key) c.l 0 = some k) := Lib.hid (by rw [HE.out, first_here HK.out HN.out])
          clear hK he
          go_wp2_with fail
          refine HW.out.mono ?_
          rintro e w1 ⟨rfl, hb⟩
          have HB1 := Lib.hid (stay HB.out hb)
          clear hb
          go_wp2_with fail
          go_ret2
          exact ⟨by rw [HR.out]; rfl, HB1.out⟩
        · have HN : Hid (isKey key f = false) := Lib.hid (by simp [isKey, he])
          have e1 : (f.key == key) = false := by simpa using he
          clear hK he
          go_wp2_with fail
          refine HW.out.mono ?_
          rintro e w1 ⟨rfl, hb⟩
          have HB1 := Lib.hid (stay HB.out hb)
          clear hb
          go_wp2_with fail
          go_roundg (c.l.length - (k + 1))
          case measure => omega
          case rel => exact ⟨k + 1, by omega, by omega, by go_num, by rw [HE.out, first_next HK.out HN.out], HB1.out⟩
    · obtain rfl : k = c.l.length := by omega
      have hk1 : ¬ (c.l.length : Int) < (c.l.length : Int) := by omega
      have HR : Hid (firstFrom (isKey key) c.l 0 = none) := Lib.hid (by rw [HE.out, first_end])
      clear hb
      go_wp2_with fail
      go_ret2
      exact ⟨by rw [HR.out]; rfl, HB.out⟩

end Kl
end Go.Proofs.YtaemjglblfencaaGreatDoor
