/- A play's steps, in memory; which plays are fair. -/
import Derived.Test.YtaemjglblfencaaGreatDoorGb
namespace Go.Proofs.YtaemjglblfencaaGreatDoor
set_option linter.unusedSimpArgs false
set_option linter.unusedVariables false
open Go.RowKit Kl

/-- One step of a play. -/
structure Stp where
  kind : Int
  frame : Int
  key : Int
  off : Int
  v : Int
  data : List Int
structure Stp.Wf (x : Stp) : Prop where
  kind : Kl.Small x.kind
  frame : Kl.Small x.frame
  key : Kl.Small x.key
  off : Kl.Small x.off
  v : Byte x.v
  data : ∀ y ∈ x.data, Byte y
structure StpAt (w : World) (b o : Nat) (x : Stp) (dv : Value) : Prop where
  c0 : w.cell? ⟨b, o, none⟩ = some (.int .i64 x.kind)
  c1 : w.cell? ⟨b, o + 1, none⟩ = some (.int .i64 x.frame)
  c2 : w.cell? ⟨b, o + 2, none⟩ = some (.int .i64 x.key)
  c3 : w.cell? ⟨b, o + 3, none⟩ = some (.int .i64 x.off)
  c4 : w.cell? ⟨b, o + 4, none⟩ = some (.int .u8 x.v)
  c5 : w.cell? ⟨b, o + 5, none⟩ = some dv
  bs : BytesAt w dv x.data
theorem StpAt.below {w w' : World} {b o : Nat} {x : Stp} {dv : Value} (h : StpAt w b o x dv) (hb : Below w.heap.size w w') : StpAt w' b o x dv :=
  ⟨(hb.cell (block_lt_of_cell h.c0)).trans h.c0, (hb.cell (block_lt_of_cell h.c1)).trans h.c1, (hb.cell (block_lt_of_cell h.c2)).trans h.c2, (hb.cell (block_lt_of_cell h.c3)).trans h.c3, (hb.cell (block_lt_of_cell h.c4)).trans h.c4, (hb.cell (block_lt_of_cell h.c5)).trans h.c5, h.bs.below hb⟩
def StepsAt (w : World) (sv : Value) (l : List Stp) : Prop := l.length ≤ 9223372036854775807 ∧ ∃ a cap, sv = .slice a l.length cap ∧ ∀ i x, l[i]? = some x → x.Wf ∧ ∃ b o dv, a = some ⟨b, o, none⟩ ∧ StpAt w b (o + i * 6) x dv
theorem StepsAt.below {w w' : World} {sv : Value} {l : List Stp} (h : StepsAt w sv l) (hb : Below w.heap.size w w') : StepsAt w' sv l := by
  obtain ⟨hn, a, cap, e, hc⟩ := h
  refine ⟨hn, a, cap, e, fun i x hx => ?_⟩
  obtain ⟨hw, b, o, dv, e2, hs⟩ := hc i x hx
  exact ⟨hw, b, o, dv, e2, hs.below hb⟩
def fairL (l : List Stp) : Bool := (l.all fun x => decide (x.data.length ≤ 100)) && decide (l.length ≤ 150)
theorem fairL_at {l : List Stp} (h : fairL l = true) {i : Nat} {x : Stp} (hx : l[i]? = some x) : x.data.length ≤ 100 := by
  unfold fairL at h
  rw [Bool.and_eq_true] at h
  exact of_decide_eq_true (List.all_eq_true.1 h.1 x (List.mem_of_getElem? hx))
theorem fairL_len {l : List Stp} (h : fairL l = true) : l.length ≤ 150 := by
  unfold fairL at h
  rw [Bool.and_eq_true] at h
  exact of_decide_eq_true h.2
set_option maxRecDepth 100000 in
theorem fair_any (w : World) (sv : Value) (l : List Stp) (h : StepsAt w sv l) : Calls Tryz.prog 4 #[sv] w fun e w' => e = .returned (.bool (fairL l)) ∧ w = w' := by
  obtain ⟨hn, a, cap, rfl, hc⟩ := h
  have HC := Lib.hid hc
  clear hc
  obtain ⟨n, hln⟩ : ∃ n, l.length = n := ⟨_, rfl⟩
  have HL := Lib.hid hln
  rw [hln]
  rw [hln] at hn
  clear hln
  go_enter Tryz.func4, Tryz.ntmps4
  go_wp2_with fail
  go_loopg [3] n (fun q i wr => ∃ k : Nat, n - k ≤ q ∧ k ≤ n ∧ i = .int .i64 k ∧ w = wr ∧ ∀ j x, j < k → l[j]? = some x → x.data.length ≤ 100)
  case atStart => exact ⟨0, by omega, by omega, rfl, rfl, fun j x hj => by omega⟩
  case round =>
    obtain ⟨k, hq, hk, rfl, rfl, hall⟩ := hrel
    have HA := Lib.hid hall
    clear hall
    by_cases hlt : k < n
    · have hk1 : (k : Int) < (n : Int) := by omega
      obtain ⟨x, hx⟩ : ∃ x, l[k]? = some x := ⟨_, List.getElem?_eq_getElem (by rw [HL.out]; exact hlt)⟩
      obtain ⟨hw, b, o, dv, rfl, hs⟩ := HC.out k x hx
      obtain ⟨a', c', rfl, hb'⟩ := hs.bs
      have c5 := hs.c5
      have HX := Lib.hid hx
      clear hw hs hb' hx
      by_cases hd : 100 < x.data.length
      · have d1 : decide (100 < (x.data.length : Int)) = true := decide_eq_true (by omega)
        have HF : Hid (fairL l = false) := Lib.hid (by
          unfold fairL
          rw [Bool.and_eq_false_iff]
          left
          rw [List.all_eq_false]
          exact ⟨x, List.mem_of_getElem? HX.out, by simpa using hd⟩)
        have hd1 : (100 : Int) < (x.data.length : Int) := by omega
        clear hd
        generalize x.data.length = m at *
        go_wp2_with fail
        go_ret
        exact ⟨by rw [HF.out]; rfl, rfl⟩
      · have d1 : decide (100 < (x.data.length : Int)) = false := decide_eq_false (by omega)
        have HD := Lib.hid hd
        have hd1 : ¬ (100 : Int) < (x.data.length : Int) := by omega
        clear hd
        generalize hm : x.data.length = m at *
        have HM := Lib.hid hm
        clear hm
        go_wp2_with fail
        go_roundg (n - (k + 1))
        case measure => omega
        case rel =>
          refine ⟨k + 1, by omega, by omega, by go_num, rfl, fun j y hj hy => ?_⟩
          by_cases e : j = k
          · subst e
            rw [HX.out] at hy
            cases hy
            have := HD.out
            have := HM.out
            omega
          · exact HA.out j y (by omega) hy
    · obtain rfl : k = n := by omega
      have hk1 : ¬ (k : Int) < (k : Int) := by omega
      have HF : Hid (fairL l = decide ((k : Int) ≤ 150)) := Lib.hid (by
        unfold fairL
        have : (l.all fun x => decide (x.data.length ≤ 100)) = true := List.all_eq_true.2 fun x hx => by
          obtain ⟨j, hj⟩ := List.getElem?_of_mem hx
          exact decide_eq_true (HA.out j x (by have := (List.getElem?_eq_some_iff.1 hj).1; have := HL.out; omega) hj)
        rw [this, Bool.true_and, HL.out]
        congr 1
        exact propext ⟨fun h => by omega, fun h => by omega⟩)
      go_wp2_with fail
      go_ret
      exact ⟨by rw [HF.out]; rfl, rfl⟩

end Go.Proofs.YtaemjglblfencaaGreatDoor
